/-
  No cell of these rows narrows 'for every input' (looked for: loops, veiled, ifaces, maps, wideKeys, modest, calm, conditions, laid).
  DERIVED. THE GIVEN ROWS OF THIS SEAT. 12 by the template 'for every input the law returns true; each argument reads behind the call as it read before'; 0 by the template 'total and deterministic' (their statements: YtddjcgaejjldbaaTotals.lean).
  GIVEN WITH THE SEED: the statements are not yours to turn. If you find one false, say at which input.
  Laid BY PROGRAM, IN A SANDBOX (cutbox-rows.mjs): the forced cells as the released guide's own fill.sh prints them over the translation 74265d48ad799e06… (all of the seat's roots in one cut). By AI agents, Wed Nov 11 2026. No macro, syntax, notation, axiom, sorry.
-/
import Derived.Test.YtddjcgaejjldbaaChecked
import GoSem.Claim
import GoSem.ClaimJoined
import GoSem.ClaimMapViews
import Derived.JoinedTies
import Derived.KernelRfl
namespace Go.Proofs.Ytddjcgaejjldbaa
/- THE CELL 'sum', in the pinned program and in every row, IS THE sha256 OF THE DUMP (.gsa) THAT YtddjcgaejjldbaaProg.lean LOADS. Nothing in Lean hashes anything: it is a label: what it is worth is what the hold of that sum in a sandbox is worth. -/
noncomputable def Try.pinned : Pinned := { name := "ytddjcgaejjldbaa", sum := "74265d48ad799e06a9284c493c0bd45f36c1d409447ae16a763139aea6727635", checked := Try.checked }
namespace Rows
def none {H : Type} : Left H := { results := [], args := [] }

/-- 'laws.FnExactValidCoder': WHATEVER THE INPUT: true; the input reads as it did. -/
def fnExactValidCoderSpec : ChangeSpec := { name := "fnExactValidCoder", fn := fun _ => fun
  | [d] => { results := [.lit (.bool true)], args := [d] }
  | _ => none }
def fnExactValidCoderRow : OpenClaim := { program := "ytddjcgaejjldbaa", sum := "74265d48ad799e06a9284c493c0bd45f36c1d409447ae16a763139aea6727635", func := "loop.example/g01133/laws.FnExactValidCoder", spec := "fnExactValidCoder", unfollowed := true, recurses := true, apart := false }
def FnExactValidCoderSaid : Prop := fnExactValidCoderRow.holds Try.pinned (OpenSpec.ofChange fnExactValidCoderSpec)

/-- ITS FALSE NEIGHBOUR: 'it returns false'. Refute it at one input. -/
def fnExactValidCoderWrong : ChangeSpec := { name := "fnExactValidCoder", fn := fun _ => fun
  | [d] => { results := [.lit (.bool false)], args := [d] }
  | _ => none }
def FnExactValidCoderWrongFalsely : Prop := fnExactValidCoderRow.holds Try.pinned (OpenSpec.ofChange fnExactValidCoderWrong)

/-- 'laws.FnExactCodeWord': WHATEVER THE INPUT: true; the input reads as it did. -/
def fnExactCodeWordSpec : ChangeSpec := { name := "fnExactCodeWord", fn := fun _ => fun
  | [d1, d2] => { results := [.lit (.bool true)], args := [d1, d2] }
  | _ => none }
def fnExactCodeWordRow : OpenClaim := { program := "ytddjcgaejjldbaa", sum := "74265d48ad799e06a9284c493c0bd45f36c1d409447ae16a763139aea6727635", func := "loop.example/g01133/laws.FnExactCodeWord", spec := "fnExactCodeWord", inPlace := ["internal/bytealg.IndexByteString", "internal/bytealg.IndexString", "internal/abi.NoEscape"], unfollowed := true, recurses := true, named := ["internal/bytealg.MaxLen"], apart := false }
def FnExactCodeWordSaid : Prop := fnExactCodeWordRow.holds Try.pinned (OpenSpec.ofChange fnExactCodeWordSpec)

/-- ITS FALSE NEIGHBOUR: 'it returns false'. Refute it at one input. -/
def fnExactCodeWordWrong : ChangeSpec := { name := "fnExactCodeWord", fn := fun _ => fun
  | [d1, d2] => { results := [.lit (.bool false)], args := [d1, d2] }
  | _ => none }
def FnExactCodeWordWrongFalsely : Prop := fnExactCodeWordRow.holds Try.pinned (OpenSpec.ofChange fnExactCodeWordWrong)

/-- 'laws.FnExactNotAuto': WHATEVER THE INPUT: true; the input reads as it did. -/
def fnExactNotAutoSpec : ChangeSpec := { name := "fnExactNotAuto", fn := fun _ => fun
  | [d] => { results := [.lit (.bool true)], args := [d] }
  | _ => none }
def fnExactNotAutoRow : OpenClaim := { program := "ytddjcgaejjldbaa", sum := "74265d48ad799e06a9284c493c0bd45f36c1d409447ae16a763139aea6727635", func := "loop.example/g01133/laws.FnExactNotAuto", spec := "fnExactNotAuto", unfollowed := true, recurses := true, apart := false }
def FnExactNotAutoSaid : Prop := fnExactNotAutoRow.holds Try.pinned (OpenSpec.ofChange fnExactNotAutoSpec)

/-- ITS FALSE NEIGHBOUR: 'it returns false'. Refute it at one input. -/
def fnExactNotAutoWrong : ChangeSpec := { name := "fnExactNotAuto", fn := fun _ => fun
  | [d] => { results := [.lit (.bool false)], args := [d] }
  | _ => none }
def FnExactNotAutoWrongFalsely : Prop := fnExactNotAutoRow.holds Try.pinned (OpenSpec.ofChange fnExactNotAutoWrong)

/-- 'laws.FnExactBothAuto': WHATEVER THE INPUT: true; the input reads as it did. -/
def fnExactBothAutoSpec : ChangeSpec := { name := "fnExactBothAuto", fn := fun _ => fun
  | [d1, d2] => { results := [.lit (.bool true)], args := [d1, d2] }
  | _ => none }
def fnExactBothAutoRow : OpenClaim := { program := "ytddjcgaejjldbaa", sum := "74265d48ad799e06a9284c493c0bd45f36c1d409447ae16a763139aea6727635", func := "loop.example/g01133/laws.FnExactBothAuto", spec := "fnExactBothAuto", unfollowed := true, recurses := true, apart := false }
def FnExactBothAutoSaid : Prop := fnExactBothAutoRow.holds Try.pinned (OpenSpec.ofChange fnExactBothAutoSpec)

/-- ITS FALSE NEIGHBOUR: 'it returns false'. Refute it at one input. -/
def fnExactBothAutoWrong : ChangeSpec := { name := "fnExactBothAuto", fn := fun _ => fun
  | [d1, d2] => { results := [.lit (.bool false)], args := [d1, d2] }
  | _ => none }
def FnExactBothAutoWrongFalsely : Prop := fnExactBothAutoRow.holds Try.pinned (OpenSpec.ofChange fnExactBothAutoWrong)

/-- 'laws.FnExactPatternAuto': WHATEVER THE INPUT: true; the input reads as it did. -/
def fnExactPatternAutoSpec : ChangeSpec := { name := "fnExactPatternAuto", fn := fun _ => fun
  | [d] => { results := [.lit (.bool true)], args := [d] }
  | _ => none }
def fnExactPatternAutoRow : OpenClaim := { program := "ytddjcgaejjldbaa", sum := "74265d48ad799e06a9284c493c0bd45f36c1d409447ae16a763139aea6727635", func := "loop.example/g01133/laws.FnExactPatternAuto", spec := "fnExactPatternAuto", apart := false }
def FnExactPatternAutoSaid : Prop := fnExactPatternAutoRow.holds Try.pinned (OpenSpec.ofChange fnExactPatternAutoSpec)

/-- ITS FALSE NEIGHBOUR: 'it returns false'. Refute it at one input. -/
def fnExactPatternAutoWrong : ChangeSpec := { name := "fnExactPatternAuto", fn := fun _ => fun
  | [d] => { results := [.lit (.bool false)], args := [d] }
  | _ => none }
def FnExactPatternAutoWrongFalsely : Prop := fnExactPatternAutoRow.holds Try.pinned (OpenSpec.ofChange fnExactPatternAutoWrong)

/-- 'laws.FnExactRunGrammar': WHATEVER THE INPUT: true; the input reads as it did. -/
def fnExactRunGrammarSpec : ChangeSpec := { name := "fnExactRunGrammar", fn := fun _ => fun
  | [d1, d2, d3] => { results := [.lit (.bool true)], args := [d1, d2, d3] }
  | _ => none }
def fnExactRunGrammarRow : OpenClaim := { program := "ytddjcgaejjldbaa", sum := "74265d48ad799e06a9284c493c0bd45f36c1d409447ae16a763139aea6727635", func := "loop.example/g01133/laws.FnExactRunGrammar", spec := "fnExactRunGrammar", inPlace := ["internal/bytealg.IndexByteString", "internal/bytealg.IndexString"], unfollowed := true, recurses := true, named := ["internal/bytealg.MaxLen"], apart := false }
def FnExactRunGrammarSaid : Prop := fnExactRunGrammarRow.holds Try.pinned (OpenSpec.ofChange fnExactRunGrammarSpec)

/-- ITS FALSE NEIGHBOUR: 'it returns false'. Refute it at one input. -/
def fnExactRunGrammarWrong : ChangeSpec := { name := "fnExactRunGrammar", fn := fun _ => fun
  | [d1, d2, d3] => { results := [.lit (.bool false)], args := [d1, d2, d3] }
  | _ => none }
def FnExactRunGrammarWrongFalsely : Prop := fnExactRunGrammarRow.holds Try.pinned (OpenSpec.ofChange fnExactRunGrammarWrong)

/-- 'laws.FnExactStateAfter': WHATEVER THE INPUT: true; the input reads as it did. -/
def fnExactStateAfterSpec : ChangeSpec := { name := "fnExactStateAfter", fn := fun _ => fun
  | [d1, d2, d3] => { results := [.lit (.bool true)], args := [d1, d2, d3] }
  | _ => none }
def fnExactStateAfterRow : OpenClaim := { program := "ytddjcgaejjldbaa", sum := "74265d48ad799e06a9284c493c0bd45f36c1d409447ae16a763139aea6727635", func := "loop.example/g01133/laws.FnExactStateAfter", spec := "fnExactStateAfter", inPlace := ["internal/bytealg.IndexByteString", "internal/bytealg.IndexString"], unfollowed := true, recurses := true, named := ["internal/bytealg.MaxLen"], apart := false }
def FnExactStateAfterSaid : Prop := fnExactStateAfterRow.holds Try.pinned (OpenSpec.ofChange fnExactStateAfterSpec)

/-- ITS FALSE NEIGHBOUR: 'it returns false'. Refute it at one input. -/
def fnExactStateAfterWrong : ChangeSpec := { name := "fnExactStateAfter", fn := fun _ => fun
  | [d1, d2, d3] => { results := [.lit (.bool false)], args := [d1, d2, d3] }
  | _ => none }
def FnExactStateAfterWrongFalsely : Prop := fnExactStateAfterRow.holds Try.pinned (OpenSpec.ofChange fnExactStateAfterWrong)

/-- 'laws.FnExactAcceptsGrammar': WHATEVER THE INPUT: true; the input reads as it did. -/
def fnExactAcceptsGrammarSpec : ChangeSpec := { name := "fnExactAcceptsGrammar", fn := fun _ => fun
  | [d1, d2] => { results := [.lit (.bool true)], args := [d1, d2] }
  | _ => none }
def fnExactAcceptsGrammarRow : OpenClaim := { program := "ytddjcgaejjldbaa", sum := "74265d48ad799e06a9284c493c0bd45f36c1d409447ae16a763139aea6727635", func := "loop.example/g01133/laws.FnExactAcceptsGrammar", spec := "fnExactAcceptsGrammar", inPlace := ["internal/bytealg.IndexByteString", "internal/bytealg.IndexString"], unfollowed := true, recurses := true, named := ["internal/bytealg.MaxLen"], apart := false }
def FnExactAcceptsGrammarSaid : Prop := fnExactAcceptsGrammarRow.holds Try.pinned (OpenSpec.ofChange fnExactAcceptsGrammarSpec)

/-- ITS FALSE NEIGHBOUR: 'it returns false'. Refute it at one input. -/
def fnExactAcceptsGrammarWrong : ChangeSpec := { name := "fnExactAcceptsGrammar", fn := fun _ => fun
  | [d1, d2] => { results := [.lit (.bool false)], args := [d1, d2] }
  | _ => none }
def FnExactAcceptsGrammarWrongFalsely : Prop := fnExactAcceptsGrammarRow.holds Try.pinned (OpenSpec.ofChange fnExactAcceptsGrammarWrong)

/-- 'laws.FnExactStateMaps': WHATEVER THE INPUT: true; the input reads as it did. -/
def fnExactStateMapsSpec : ChangeSpec := { name := "fnExactStateMaps", fn := fun _ => fun
  | [d1, d2] => { results := [.lit (.bool true)], args := [d1, d2] }
  | _ => none }
def fnExactStateMapsRow : OpenClaim := { program := "ytddjcgaejjldbaa", sum := "74265d48ad799e06a9284c493c0bd45f36c1d409447ae16a763139aea6727635", func := "loop.example/g01133/laws.FnExactStateMaps", spec := "fnExactStateMaps", inPlace := ["internal/bytealg.IndexByteString", "internal/bytealg.IndexString"], unfollowed := true, recurses := true, named := ["internal/bytealg.MaxLen"], apart := false }
def FnExactStateMapsSaid : Prop := fnExactStateMapsRow.holds Try.pinned (OpenSpec.ofChange fnExactStateMapsSpec)

/-- ITS FALSE NEIGHBOUR: 'it returns false'. Refute it at one input. -/
def fnExactStateMapsWrong : ChangeSpec := { name := "fnExactStateMaps", fn := fun _ => fun
  | [d1, d2] => { results := [.lit (.bool false)], args := [d1, d2] }
  | _ => none }
def FnExactStateMapsWrongFalsely : Prop := fnExactStateMapsRow.holds Try.pinned (OpenSpec.ofChange fnExactStateMapsWrong)

/-- 'laws.FnExactPatternAt': WHATEVER THE INPUT: true; the input reads as it did. -/
def fnExactPatternAtSpec : ChangeSpec := { name := "fnExactPatternAt", fn := fun _ => fun
  | [d1, d2, d3] => { results := [.lit (.bool true)], args := [d1, d2, d3] }
  | _ => none }
def fnExactPatternAtRow : OpenClaim := { program := "ytddjcgaejjldbaa", sum := "74265d48ad799e06a9284c493c0bd45f36c1d409447ae16a763139aea6727635", func := "loop.example/g01133/laws.FnExactPatternAt", spec := "fnExactPatternAt", inPlace := ["internal/bytealg.IndexByteString", "internal/bytealg.IndexString"], unfollowed := true, recurses := true, named := ["internal/bytealg.MaxLen"], apart := false }
def FnExactPatternAtSaid : Prop := fnExactPatternAtRow.holds Try.pinned (OpenSpec.ofChange fnExactPatternAtSpec)

/-- ITS FALSE NEIGHBOUR: 'it returns false'. Refute it at one input. -/
def fnExactPatternAtWrong : ChangeSpec := { name := "fnExactPatternAt", fn := fun _ => fun
  | [d1, d2, d3] => { results := [.lit (.bool false)], args := [d1, d2, d3] }
  | _ => none }
def FnExactPatternAtWrongFalsely : Prop := fnExactPatternAtRow.holds Try.pinned (OpenSpec.ofChange fnExactPatternAtWrong)

/-- 'laws.FnExactFirstVisit': WHATEVER THE INPUT: true; the input reads as it did. -/
def fnExactFirstVisitSpec : ChangeSpec := { name := "fnExactFirstVisit", fn := fun _ => fun
  | [d1, d2, d3] => { results := [.lit (.bool true)], args := [d1, d2, d3] }
  | _ => none }
def fnExactFirstVisitRow : OpenClaim := { program := "ytddjcgaejjldbaa", sum := "74265d48ad799e06a9284c493c0bd45f36c1d409447ae16a763139aea6727635", func := "loop.example/g01133/laws.FnExactFirstVisit", spec := "fnExactFirstVisit", inPlace := ["internal/bytealg.IndexByteString", "internal/bytealg.IndexString"], unfollowed := true, recurses := true, named := ["internal/bytealg.MaxLen"], apart := false }
def FnExactFirstVisitSaid : Prop := fnExactFirstVisitRow.holds Try.pinned (OpenSpec.ofChange fnExactFirstVisitSpec)

/-- ITS FALSE NEIGHBOUR: 'it returns false'. Refute it at one input. -/
def fnExactFirstVisitWrong : ChangeSpec := { name := "fnExactFirstVisit", fn := fun _ => fun
  | [d1, d2, d3] => { results := [.lit (.bool false)], args := [d1, d2, d3] }
  | _ => none }
def FnExactFirstVisitWrongFalsely : Prop := fnExactFirstVisitRow.holds Try.pinned (OpenSpec.ofChange fnExactFirstVisitWrong)

/-- 'laws.FnExactCodedLength': WHATEVER THE INPUT: true; the input reads as it did. -/
def fnExactCodedLengthSpec : ChangeSpec := { name := "fnExactCodedLength", fn := fun _ => fun
  | [d1, d2] => { results := [.lit (.bool true)], args := [d1, d2] }
  | _ => none }
def fnExactCodedLengthRow : OpenClaim := { program := "ytddjcgaejjldbaa", sum := "74265d48ad799e06a9284c493c0bd45f36c1d409447ae16a763139aea6727635", func := "loop.example/g01133/laws.FnExactCodedLength", spec := "fnExactCodedLength", inPlace := ["internal/bytealg.IndexByteString", "internal/bytealg.IndexString"], unfollowed := true, recurses := true, named := ["internal/bytealg.MaxLen"], apart := false }
def FnExactCodedLengthSaid : Prop := fnExactCodedLengthRow.holds Try.pinned (OpenSpec.ofChange fnExactCodedLengthSpec)

/-- ITS FALSE NEIGHBOUR: 'it returns false'. Refute it at one input. -/
def fnExactCodedLengthWrong : ChangeSpec := { name := "fnExactCodedLength", fn := fun _ => fun
  | [d1, d2] => { results := [.lit (.bool false)], args := [d1, d2] }
  | _ => none }
def FnExactCodedLengthWrongFalsely : Prop := fnExactCodedLengthRow.holds Try.pinned (OpenSpec.ofChange fnExactCodedLengthWrong)

/- THE SECOND FORM. 'bulk': how many values and letters a reading holds, each counted each time it is reached (what is shared counts as often as it is met; a slice's spare places count too). A statement '..UptoSaid' is the law's where the arguments, and the package variables that the reading takes, are together of bulk at most 1048576: NARROWER than '..Said'. Prove '..Said' where nothing that the law and all that it calls make is longer than what came in: it says more and counts as full. Else prove '..UptoSaid'. A law counts once. -/
mutual
def uptoBulk {H : Type} : DataW H → Nat
  | .lit (.string bytes) => bytes.length + 1
  | .lit _ => 1
  | .nil => 1
  | .ptr d => uptoBulk d + 1
  | .slice elems spare => uptoBulkAll elems + uptoBulkAll spare + 1
  | .agg parts => uptoBulkAll parts + 1
  | .iface _ d => uptoBulk d + 1
  | .map entries => uptoBulkEntries entries + 1
  | .held _ => 1
def uptoBulkAll {H : Type} : List (DataW H) → Nat
  | [] => 0
  | d :: r => uptoBulk d + uptoBulkAll r
def uptoBulkEntries {H : Type} : List (Lit × DataW H) → Nat
  | [] => 0
  | x :: r => uptoBulkEntry x + uptoBulkEntries r
def uptoBulkEntry {H : Type} : Lit × DataW H → Nat
  | (.string bytes, d) => bytes.length + uptoBulk d + 1
  | (_, d) => uptoBulk d + 1
 end
def uptoSmall : (H : Type) → List (DataW H) → Bool := fun _ ds => decide (uptoBulkAll ds ≤ 1048576)
def OpenSpec.upto (s : _root_.Go.ChangeSpec) : _root_.Go.OpenSpec := { _root_.Go.OpenSpec.ofChange s with cond := some uptoSmall }

/-- 'laws.FnExactValidCoder', WHERE WHAT IT READS IS OF BULK AT MOST 1048576: true; the input reads as it did. -/
def fnExactValidCoderUptoRow : OpenClaim := { program := "ytddjcgaejjldbaa", sum := "74265d48ad799e06a9284c493c0bd45f36c1d409447ae16a763139aea6727635", func := "loop.example/g01133/laws.FnExactValidCoder", spec := "fnExactValidCoder", unfollowed := true, recurses := true, apart := false, narrowed := true }
def FnExactValidCoderUptoSaid : Prop := fnExactValidCoderUptoRow.holds Try.pinned (OpenSpec.upto fnExactValidCoderSpec)

/-- 'laws.FnExactCodeWord', WHERE WHAT IT READS IS OF BULK AT MOST 1048576: true; the input reads as it did. -/
def fnExactCodeWordUptoRow : OpenClaim := { program := "ytddjcgaejjldbaa", sum := "74265d48ad799e06a9284c493c0bd45f36c1d409447ae16a763139aea6727635", func := "loop.example/g01133/laws.FnExactCodeWord", spec := "fnExactCodeWord", inPlace := ["internal/bytealg.IndexByteString", "internal/bytealg.IndexString", "internal/abi.NoEscape"], unfollowed := true, recurses := true, named := ["internal/bytealg.MaxLen"], apart := false, narrowed := true }
def FnExactCodeWordUptoSaid : Prop := fnExactCodeWordUptoRow.holds Try.pinned (OpenSpec.upto fnExactCodeWordSpec)

/-- 'laws.FnExactNotAuto', WHERE WHAT IT READS IS OF BULK AT MOST 1048576: true; the input reads as it did. -/
def fnExactNotAutoUptoRow : OpenClaim := { program := "ytddjcgaejjldbaa", sum := "74265d48ad799e06a9284c493c0bd45f36c1d409447ae16a763139aea6727635", func := "loop.example/g01133/laws.FnExactNotAuto", spec := "fnExactNotAuto", unfollowed := true, recurses := true, apart := false, narrowed := true }
def FnExactNotAutoUptoSaid : Prop := fnExactNotAutoUptoRow.holds Try.pinned (OpenSpec.upto fnExactNotAutoSpec)

/-- 'laws.FnExactBothAuto', WHERE WHAT IT READS IS OF BULK AT MOST 1048576: true; the input reads as it did. -/
def fnExactBothAutoUptoRow : OpenClaim := { program := "ytddjcgaejjldbaa", sum := "74265d48ad799e06a9284c493c0bd45f36c1d409447ae16a763139aea6727635", func := "loop.example/g01133/laws.FnExactBothAuto", spec := "fnExactBothAuto", unfollowed := true, recurses := true, apart := false, narrowed := true }
def FnExactBothAutoUptoSaid : Prop := fnExactBothAutoUptoRow.holds Try.pinned (OpenSpec.upto fnExactBothAutoSpec)

/-- 'laws.FnExactPatternAuto', WHERE WHAT IT READS IS OF BULK AT MOST 1048576: true; the input reads as it did. -/
def fnExactPatternAutoUptoRow : OpenClaim := { program := "ytddjcgaejjldbaa", sum := "74265d48ad799e06a9284c493c0bd45f36c1d409447ae16a763139aea6727635", func := "loop.example/g01133/laws.FnExactPatternAuto", spec := "fnExactPatternAuto", apart := false, narrowed := true }
def FnExactPatternAutoUptoSaid : Prop := fnExactPatternAutoUptoRow.holds Try.pinned (OpenSpec.upto fnExactPatternAutoSpec)

/-- 'laws.FnExactRunGrammar', WHERE WHAT IT READS IS OF BULK AT MOST 1048576: true; the input reads as it did. -/
def fnExactRunGrammarUptoRow : OpenClaim := { program := "ytddjcgaejjldbaa", sum := "74265d48ad799e06a9284c493c0bd45f36c1d409447ae16a763139aea6727635", func := "loop.example/g01133/laws.FnExactRunGrammar", spec := "fnExactRunGrammar", inPlace := ["internal/bytealg.IndexByteString", "internal/bytealg.IndexString"], unfollowed := true, recurses := true, named := ["internal/bytealg.MaxLen"], apart := false, narrowed := true }
def FnExactRunGrammarUptoSaid : Prop := fnExactRunGrammarUptoRow.holds Try.pinned (OpenSpec.upto fnExactRunGrammarSpec)

/-- 'laws.FnExactStateAfter', WHERE WHAT IT READS IS OF BULK AT MOST 1048576: true; the input reads as it did. -/
def fnExactStateAfterUptoRow : OpenClaim := { program := "ytddjcgaejjldbaa", sum := "74265d48ad799e06a9284c493c0bd45f36c1d409447ae16a763139aea6727635", func := "loop.example/g01133/laws.FnExactStateAfter", spec := "fnExactStateAfter", inPlace := ["internal/bytealg.IndexByteString", "internal/bytealg.IndexString"], unfollowed := true, recurses := true, named := ["internal/bytealg.MaxLen"], apart := false, narrowed := true }
def FnExactStateAfterUptoSaid : Prop := fnExactStateAfterUptoRow.holds Try.pinned (OpenSpec.upto fnExactStateAfterSpec)

/-- 'laws.FnExactAcceptsGrammar', WHERE WHAT IT READS IS OF BULK AT MOST 1048576: true; the input reads as it did. -/
def fnExactAcceptsGrammarUptoRow : OpenClaim := { program := "ytddjcgaejjldbaa", sum := "74265d48ad799e06a9284c493c0bd45f36c1d409447ae16a763139aea6727635", func := "loop.example/g01133/laws.FnExactAcceptsGrammar", spec := "fnExactAcceptsGrammar", inPlace := ["internal/bytealg.IndexByteString", "internal/bytealg.IndexString"], unfollowed := true, recurses := true, named := ["internal/bytealg.MaxLen"], apart := false, narrowed := true }
def FnExactAcceptsGrammarUptoSaid : Prop := fnExactAcceptsGrammarUptoRow.holds Try.pinned (OpenSpec.upto fnExactAcceptsGrammarSpec)

/-- 'laws.FnExactStateMaps', WHERE WHAT IT READS IS OF BULK AT MOST 1048576: true; the input reads as it did. -/
def fnExactStateMapsUptoRow : OpenClaim := { program := "ytddjcgaejjldbaa", sum := "74265d48ad799e06a9284c493c0bd45f36c1d409447ae16a763139aea6727635", func := "loop.example/g01133/laws.FnExactStateMaps", spec := "fnExactStateMaps", inPlace := ["internal/bytealg.IndexByteString", "internal/bytealg.IndexString"], unfollowed := true, recurses := true, named := ["internal/bytealg.MaxLen"], apart := false, narrowed := true }
def FnExactStateMapsUptoSaid : Prop := fnExactStateMapsUptoRow.holds Try.pinned (OpenSpec.upto fnExactStateMapsSpec)

/-- 'laws.FnExactPatternAt', WHERE WHAT IT READS IS OF BULK AT MOST 1048576: true; the input reads as it did. -/
def fnExactPatternAtUptoRow : OpenClaim := { program := "ytddjcgaejjldbaa", sum := "74265d48ad799e06a9284c493c0bd45f36c1d409447ae16a763139aea6727635", func := "loop.example/g01133/laws.FnExactPatternAt", spec := "fnExactPatternAt", inPlace := ["internal/bytealg.IndexByteString", "internal/bytealg.IndexString"], unfollowed := true, recurses := true, named := ["internal/bytealg.MaxLen"], apart := false, narrowed := true }
def FnExactPatternAtUptoSaid : Prop := fnExactPatternAtUptoRow.holds Try.pinned (OpenSpec.upto fnExactPatternAtSpec)

/-- 'laws.FnExactFirstVisit', WHERE WHAT IT READS IS OF BULK AT MOST 1048576: true; the input reads as it did. -/
def fnExactFirstVisitUptoRow : OpenClaim := { program := "ytddjcgaejjldbaa", sum := "74265d48ad799e06a9284c493c0bd45f36c1d409447ae16a763139aea6727635", func := "loop.example/g01133/laws.FnExactFirstVisit", spec := "fnExactFirstVisit", inPlace := ["internal/bytealg.IndexByteString", "internal/bytealg.IndexString"], unfollowed := true, recurses := true, named := ["internal/bytealg.MaxLen"], apart := false, narrowed := true }
def FnExactFirstVisitUptoSaid : Prop := fnExactFirstVisitUptoRow.holds Try.pinned (OpenSpec.upto fnExactFirstVisitSpec)

/-- 'laws.FnExactCodedLength', WHERE WHAT IT READS IS OF BULK AT MOST 1048576: true; the input reads as it did. -/
def fnExactCodedLengthUptoRow : OpenClaim := { program := "ytddjcgaejjldbaa", sum := "74265d48ad799e06a9284c493c0bd45f36c1d409447ae16a763139aea6727635", func := "loop.example/g01133/laws.FnExactCodedLength", spec := "fnExactCodedLength", inPlace := ["internal/bytealg.IndexByteString", "internal/bytealg.IndexString"], unfollowed := true, recurses := true, named := ["internal/bytealg.MaxLen"], apart := false, narrowed := true }
def FnExactCodedLengthUptoSaid : Prop := fnExactCodedLengthUptoRow.holds Try.pinned (OpenSpec.upto fnExactCodedLengthSpec)

end Rows
end Go.Proofs.Ytddjcgaejjldbaa
