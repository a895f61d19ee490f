/-
  No cell of these rows narrows 'for every input' (looked for: loops, veiled, ifaces, maps, wideKeys, modest, calm, conditions, laid).
  DERIVED. THE GIVEN ROWS OF THIS SEAT. 12 by the template 'for every input the law returns true; each argument reads behind the call as it read before'; 0 by the template 'total and deterministic' (their statements: YtlkjceolddccbaaTotals.lean).
  GIVEN WITH THE SEED: the statements are not yours to turn. If you find one false, say at which input.
  Laid BY PROGRAM, IN A SANDBOX (cutbox-rows.mjs): the forced cells as the released guide's own fill.sh prints them over the translation 501b88371767e7b9… (all of the seat's roots in one cut). By AI agents, Wed Nov 11 2026. No macro, syntax, notation, axiom, sorry.
-/
import Derived.Test.YtlkjceolddccbaaChecked
import GoSem.Claim
import GoSem.ClaimJoined
import GoSem.ClaimMapViews
import Derived.JoinedTies
import Derived.KernelRfl
namespace Go.Proofs.Ytlkjceolddccbaa
/- THE CELL 'sum', in the pinned program and in every row, IS THE sha256 OF THE DUMP (.gsa) THAT YtlkjceolddccbaaProg.lean LOADS. Nothing in Lean hashes anything: it is a label: what it is worth is what the hold of that sum in a sandbox is worth. -/
noncomputable def Try.pinned : Pinned := { name := "ytlkjceolddccbaa", sum := "501b88371767e7b958bc6370987fa5acc05ad839127d744c10c557b06db5aa19", checked := Try.checked }
namespace Rows
def none {H : Type} : Left H := { results := [], args := [] }

/-- 'laws.FnExactDepthOf': WHATEVER THE INPUT: true; the input reads as it did. -/
def fnExactDepthOfSpec : ChangeSpec := { name := "fnExactDepthOf", fn := fun _ => fun
  | [d] => { results := [.lit (.bool true)], args := [d] }
  | _ => none }
def fnExactDepthOfRow : OpenClaim := { program := "ytlkjceolddccbaa", sum := "501b88371767e7b958bc6370987fa5acc05ad839127d744c10c557b06db5aa19", func := "loop.example/g01133/laws.FnExactDepthOf", spec := "fnExactDepthOf", unfollowed := true, recurses := true, apart := false }
def FnExactDepthOfSaid : Prop := fnExactDepthOfRow.holds Try.pinned (OpenSpec.ofChange fnExactDepthOfSpec)

/-- ITS FALSE NEIGHBOUR: 'it returns false'. Refute it at one input. -/
def fnExactDepthOfWrong : ChangeSpec := { name := "fnExactDepthOf", fn := fun _ => fun
  | [d] => { results := [.lit (.bool false)], args := [d] }
  | _ => none }
def FnExactDepthOfWrongFalsely : Prop := fnExactDepthOfRow.holds Try.pinned (OpenSpec.ofChange fnExactDepthOfWrong)

/-- 'laws.FnExactPlainGrammar': WHATEVER THE INPUT: true; the input reads as it did. -/
def fnExactPlainGrammarSpec : ChangeSpec := { name := "fnExactPlainGrammar", fn := fun _ => fun
  | [d] => { results := [.lit (.bool true)], args := [d] }
  | _ => none }
def fnExactPlainGrammarRow : OpenClaim := { program := "ytlkjceolddccbaa", sum := "501b88371767e7b958bc6370987fa5acc05ad839127d744c10c557b06db5aa19", func := "loop.example/g01133/laws.FnExactPlainGrammar", spec := "fnExactPlainGrammar", inPlace := ["internal/bytealg.IndexByteString", "internal/bytealg.IndexString"], unfollowed := true, recurses := true, named := ["internal/bytealg.MaxLen"], apart := false }
def FnExactPlainGrammarSaid : Prop := fnExactPlainGrammarRow.holds Try.pinned (OpenSpec.ofChange fnExactPlainGrammarSpec)

/-- ITS FALSE NEIGHBOUR: 'it returns false'. Refute it at one input. -/
def fnExactPlainGrammarWrong : ChangeSpec := { name := "fnExactPlainGrammar", fn := fun _ => fun
  | [d] => { results := [.lit (.bool false)], args := [d] }
  | _ => none }
def FnExactPlainGrammarWrongFalsely : Prop := fnExactPlainGrammarRow.holds Try.pinned (OpenSpec.ofChange fnExactPlainGrammarWrong)

/-- 'laws.FnExactIsLevel': WHATEVER THE INPUT: true; the input reads as it did. -/
def fnExactIsLevelSpec : ChangeSpec := { name := "fnExactIsLevel", fn := fun _ => fun
  | [d] => { results := [.lit (.bool true)], args := [d] }
  | _ => none }
def fnExactIsLevelRow : OpenClaim := { program := "ytlkjceolddccbaa", sum := "501b88371767e7b958bc6370987fa5acc05ad839127d744c10c557b06db5aa19", func := "loop.example/g01133/laws.FnExactIsLevel", spec := "fnExactIsLevel", unfollowed := true, recurses := true, apart := false }
def FnExactIsLevelSaid : Prop := fnExactIsLevelRow.holds Try.pinned (OpenSpec.ofChange fnExactIsLevelSpec)

/-- ITS FALSE NEIGHBOUR: 'it returns false'. Refute it at one input. -/
def fnExactIsLevelWrong : ChangeSpec := { name := "fnExactIsLevel", fn := fun _ => fun
  | [d] => { results := [.lit (.bool false)], args := [d] }
  | _ => none }
def FnExactIsLevelWrongFalsely : Prop := fnExactIsLevelRow.holds Try.pinned (OpenSpec.ofChange fnExactIsLevelWrong)

/-- 'laws.FnExactValidFactors': WHATEVER THE INPUT: true; the input reads as it did. -/
def fnExactValidFactorsSpec : ChangeSpec := { name := "fnExactValidFactors", fn := fun _ => fun
  | [d] => { results := [.lit (.bool true)], args := [d] }
  | _ => none }
def fnExactValidFactorsRow : OpenClaim := { program := "ytlkjceolddccbaa", sum := "501b88371767e7b958bc6370987fa5acc05ad839127d744c10c557b06db5aa19", func := "loop.example/g01133/laws.FnExactValidFactors", spec := "fnExactValidFactors", apart := false }
def FnExactValidFactorsSaid : Prop := fnExactValidFactorsRow.holds Try.pinned (OpenSpec.ofChange fnExactValidFactorsSpec)

/-- ITS FALSE NEIGHBOUR: 'it returns false'. Refute it at one input. -/
def fnExactValidFactorsWrong : ChangeSpec := { name := "fnExactValidFactors", fn := fun _ => fun
  | [d] => { results := [.lit (.bool false)], args := [d] }
  | _ => none }
def FnExactValidFactorsWrongFalsely : Prop := fnExactValidFactorsRow.holds Try.pinned (OpenSpec.ofChange fnExactValidFactorsWrong)

/-- 'laws.FnExactSameFactors': WHATEVER THE INPUT: true; the input reads as it did. -/
def fnExactSameFactorsSpec : ChangeSpec := { name := "fnExactSameFactors", fn := fun _ => fun
  | [d1, d2] => { results := [.lit (.bool true)], args := [d1, d2] }
  | _ => none }
def fnExactSameFactorsRow : OpenClaim := { program := "ytlkjceolddccbaa", sum := "501b88371767e7b958bc6370987fa5acc05ad839127d744c10c557b06db5aa19", func := "loop.example/g01133/laws.FnExactSameFactors", spec := "fnExactSameFactors", apart := false }
def FnExactSameFactorsSaid : Prop := fnExactSameFactorsRow.holds Try.pinned (OpenSpec.ofChange fnExactSameFactorsSpec)

/-- ITS FALSE NEIGHBOUR: 'it returns false'. Refute it at one input. -/
def fnExactSameFactorsWrong : ChangeSpec := { name := "fnExactSameFactors", fn := fun _ => fun
  | [d1, d2] => { results := [.lit (.bool false)], args := [d1, d2] }
  | _ => none }
def FnExactSameFactorsWrongFalsely : Prop := fnExactSameFactorsRow.holds Try.pinned (OpenSpec.ofChange fnExactSameFactorsWrong)

/-- 'laws.FnExactFactorsLength': WHATEVER THE INPUT: true; the input reads as it did. -/
def fnExactFactorsLengthSpec : ChangeSpec := { name := "fnExactFactorsLength", fn := fun _ => fun
  | [d] => { results := [.lit (.bool true)], args := [d] }
  | _ => none }
def fnExactFactorsLengthRow : OpenClaim := { program := "ytlkjceolddccbaa", sum := "501b88371767e7b958bc6370987fa5acc05ad839127d744c10c557b06db5aa19", func := "loop.example/g01133/laws.FnExactFactorsLength", spec := "fnExactFactorsLength", apart := false }
def FnExactFactorsLengthSaid : Prop := fnExactFactorsLengthRow.holds Try.pinned (OpenSpec.ofChange fnExactFactorsLengthSpec)

/-- ITS FALSE NEIGHBOUR: 'it returns false'. Refute it at one input. -/
def fnExactFactorsLengthWrong : ChangeSpec := { name := "fnExactFactorsLength", fn := fun _ => fun
  | [d] => { results := [.lit (.bool false)], args := [d] }
  | _ => none }
def FnExactFactorsLengthWrongFalsely : Prop := fnExactFactorsLengthRow.holds Try.pinned (OpenSpec.ofChange fnExactFactorsLengthWrong)

/-- 'laws.FnExactWordOfFactors': WHATEVER THE INPUT: true; the input reads as it did. -/
def fnExactWordOfFactorsSpec : ChangeSpec := { name := "fnExactWordOfFactors", fn := fun _ => fun
  | [d] => { results := [.lit (.bool true)], args := [d] }
  | _ => none }
def fnExactWordOfFactorsRow : OpenClaim := { program := "ytlkjceolddccbaa", sum := "501b88371767e7b958bc6370987fa5acc05ad839127d744c10c557b06db5aa19", func := "loop.example/g01133/laws.FnExactWordOfFactors", spec := "fnExactWordOfFactors", apart := false }
def FnExactWordOfFactorsSaid : Prop := fnExactWordOfFactorsRow.holds Try.pinned (OpenSpec.ofChange fnExactWordOfFactorsSpec)

/-- ITS FALSE NEIGHBOUR: 'it returns false'. Refute it at one input. -/
def fnExactWordOfFactorsWrong : ChangeSpec := { name := "fnExactWordOfFactors", fn := fun _ => fun
  | [d] => { results := [.lit (.bool false)], args := [d] }
  | _ => none }
def FnExactWordOfFactorsWrongFalsely : Prop := fnExactWordOfFactorsRow.holds Try.pinned (OpenSpec.ofChange fnExactWordOfFactorsWrong)

/-- 'laws.FnExactEmbeddedStart': WHATEVER THE INPUT: true; the input reads as it did. -/
def fnExactEmbeddedStartSpec : ChangeSpec := { name := "fnExactEmbeddedStart", fn := fun _ => fun
  | [d1, d2] => { results := [.lit (.bool true)], args := [d1, d2] }
  | _ => none }
def fnExactEmbeddedStartRow : OpenClaim := { program := "ytlkjceolddccbaa", sum := "501b88371767e7b958bc6370987fa5acc05ad839127d744c10c557b06db5aa19", func := "loop.example/g01133/laws.FnExactEmbeddedStart", spec := "fnExactEmbeddedStart", inPlace := ["internal/bytealg.IndexByteString", "internal/bytealg.IndexString"], unfollowed := true, recurses := true, named := ["internal/bytealg.MaxLen"], apart := false }
def FnExactEmbeddedStartSaid : Prop := fnExactEmbeddedStartRow.holds Try.pinned (OpenSpec.ofChange fnExactEmbeddedStartSpec)

/-- ITS FALSE NEIGHBOUR: 'it returns false'. Refute it at one input. -/
def fnExactEmbeddedStartWrong : ChangeSpec := { name := "fnExactEmbeddedStart", fn := fun _ => fun
  | [d1, d2] => { results := [.lit (.bool false)], args := [d1, d2] }
  | _ => none }
def FnExactEmbeddedStartWrongFalsely : Prop := fnExactEmbeddedStartRow.holds Try.pinned (OpenSpec.ofChange fnExactEmbeddedStartWrong)

/-- 'laws.FnExactEmbedFirst': WHATEVER THE INPUT: true; the input reads as it did. -/
def fnExactEmbedFirstSpec : ChangeSpec := { name := "fnExactEmbedFirst", fn := fun _ => fun
  | [d1, d2] => { results := [.lit (.bool true)], args := [d1, d2] }
  | _ => none }
def fnExactEmbedFirstRow : OpenClaim := { program := "ytlkjceolddccbaa", sum := "501b88371767e7b958bc6370987fa5acc05ad839127d744c10c557b06db5aa19", func := "loop.example/g01133/laws.FnExactEmbedFirst", spec := "fnExactEmbedFirst", inPlace := ["internal/bytealg.IndexByteString", "internal/bytealg.IndexString"], unfollowed := true, recurses := true, named := ["internal/bytealg.MaxLen"], apart := false }
def FnExactEmbedFirstSaid : Prop := fnExactEmbedFirstRow.holds Try.pinned (OpenSpec.ofChange fnExactEmbedFirstSpec)

/-- ITS FALSE NEIGHBOUR: 'it returns false'. Refute it at one input. -/
def fnExactEmbedFirstWrong : ChangeSpec := { name := "fnExactEmbedFirst", fn := fun _ => fun
  | [d1, d2] => { results := [.lit (.bool false)], args := [d1, d2] }
  | _ => none }
def FnExactEmbedFirstWrongFalsely : Prop := fnExactEmbedFirstRow.holds Try.pinned (OpenSpec.ofChange fnExactEmbedFirstWrong)

/-- 'laws.FnExactLongestRuns': WHATEVER THE INPUT: true; the input reads as it did. -/
def fnExactLongestRunsSpec : ChangeSpec := { name := "fnExactLongestRuns", fn := fun _ => fun
  | [d] => { results := [.lit (.bool true)], args := [d] }
  | _ => none }
def fnExactLongestRunsRow : OpenClaim := { program := "ytlkjceolddccbaa", sum := "501b88371767e7b958bc6370987fa5acc05ad839127d744c10c557b06db5aa19", func := "loop.example/g01133/laws.FnExactLongestRuns", spec := "fnExactLongestRuns", inPlace := ["internal/bytealg.IndexByteString", "internal/bytealg.IndexString"], unfollowed := true, recurses := true, named := ["internal/bytealg.MaxLen"], apart := false }
def FnExactLongestRunsSaid : Prop := fnExactLongestRunsRow.holds Try.pinned (OpenSpec.ofChange fnExactLongestRunsSpec)

/-- ITS FALSE NEIGHBOUR: 'it returns false'. Refute it at one input. -/
def fnExactLongestRunsWrong : ChangeSpec := { name := "fnExactLongestRuns", fn := fun _ => fun
  | [d] => { results := [.lit (.bool false)], args := [d] }
  | _ => none }
def FnExactLongestRunsWrongFalsely : Prop := fnExactLongestRunsRow.holds Try.pinned (OpenSpec.ofChange fnExactLongestRunsWrong)

/-- 'laws.FnExactFactorsOf': WHATEVER THE INPUT: true; the input reads as it did. -/
def fnExactFactorsOfSpec : ChangeSpec := { name := "fnExactFactorsOf", fn := fun _ => fun
  | [d] => { results := [.lit (.bool true)], args := [d] }
  | _ => none }
def fnExactFactorsOfRow : OpenClaim := { program := "ytlkjceolddccbaa", sum := "501b88371767e7b958bc6370987fa5acc05ad839127d744c10c557b06db5aa19", func := "loop.example/g01133/laws.FnExactFactorsOf", spec := "fnExactFactorsOf", inPlace := ["internal/bytealg.IndexByteString", "internal/bytealg.IndexString"], named := ["internal/bytealg.MaxLen"], apart := false }
def FnExactFactorsOfSaid : Prop := fnExactFactorsOfRow.holds Try.pinned (OpenSpec.ofChange fnExactFactorsOfSpec)

/-- ITS FALSE NEIGHBOUR: 'it returns false'. Refute it at one input. -/
def fnExactFactorsOfWrong : ChangeSpec := { name := "fnExactFactorsOf", fn := fun _ => fun
  | [d] => { results := [.lit (.bool false)], args := [d] }
  | _ => none }
def FnExactFactorsOfWrongFalsely : Prop := fnExactFactorsOfRow.holds Try.pinned (OpenSpec.ofChange fnExactFactorsOfWrong)

/-- 'laws.FnExactRunsOf': WHATEVER THE INPUT: true; the input reads as it did. -/
def fnExactRunsOfSpec : ChangeSpec := { name := "fnExactRunsOf", fn := fun _ => fun
  | [d] => { results := [.lit (.bool true)], args := [d] }
  | _ => none }
def fnExactRunsOfRow : OpenClaim := { program := "ytlkjceolddccbaa", sum := "501b88371767e7b958bc6370987fa5acc05ad839127d744c10c557b06db5aa19", func := "loop.example/g01133/laws.FnExactRunsOf", spec := "fnExactRunsOf", apart := false }
def FnExactRunsOfSaid : Prop := fnExactRunsOfRow.holds Try.pinned (OpenSpec.ofChange fnExactRunsOfSpec)

/-- ITS FALSE NEIGHBOUR: 'it returns false'. Refute it at one input. -/
def fnExactRunsOfWrong : ChangeSpec := { name := "fnExactRunsOf", fn := fun _ => fun
  | [d] => { results := [.lit (.bool false)], args := [d] }
  | _ => none }
def FnExactRunsOfWrongFalsely : Prop := fnExactRunsOfRow.holds Try.pinned (OpenSpec.ofChange fnExactRunsOfWrong)

/- THE SECOND FORM. 'bulk': how many values and letters a reading holds, each counted each time it is reached (what is shared counts as often as it is met; a slice's spare places count too). A statement '..UptoSaid' is the law's where the arguments, and the package variables that the reading takes, are together of bulk at most 1048576: NARROWER than '..Said'. Prove '..Said' where nothing that the law and all that it calls make is longer than what came in: it says more and counts as full. Else prove '..UptoSaid'. A law counts once. -/
mutual
def uptoBulk {H : Type} : DataW H → Nat
  | .lit (.string bytes) => bytes.length + 1
  | .lit _ => 1
  | .nil => 1
  | .ptr d => uptoBulk d + 1
  | .slice elems spare => uptoBulkAll elems + uptoBulkAll spare + 1
  | .agg parts => uptoBulkAll parts + 1
  | .iface _ d => uptoBulk d + 1
  | .map entries => uptoBulkEntries entries + 1
  | .held _ => 1
def uptoBulkAll {H : Type} : List (DataW H) → Nat
  | [] => 0
  | d :: r => uptoBulk d + uptoBulkAll r
def uptoBulkEntries {H : Type} : List (Lit × DataW H) → Nat
  | [] => 0
  | x :: r => uptoBulkEntry x + uptoBulkEntries r
def uptoBulkEntry {H : Type} : Lit × DataW H → Nat
  | (.string bytes, d) => bytes.length + uptoBulk d + 1
  | (_, d) => uptoBulk d + 1
 end
def uptoSmall : (H : Type) → List (DataW H) → Bool := fun _ ds => decide (uptoBulkAll ds ≤ 1048576)
def OpenSpec.upto (s : _root_.Go.ChangeSpec) : _root_.Go.OpenSpec := { _root_.Go.OpenSpec.ofChange s with cond := some uptoSmall }

/-- 'laws.FnExactDepthOf', WHERE WHAT IT READS IS OF BULK AT MOST 1048576: true; the input reads as it did. -/
def fnExactDepthOfUptoRow : OpenClaim := { program := "ytlkjceolddccbaa", sum := "501b88371767e7b958bc6370987fa5acc05ad839127d744c10c557b06db5aa19", func := "loop.example/g01133/laws.FnExactDepthOf", spec := "fnExactDepthOf", unfollowed := true, recurses := true, apart := false, narrowed := true }
def FnExactDepthOfUptoSaid : Prop := fnExactDepthOfUptoRow.holds Try.pinned (OpenSpec.upto fnExactDepthOfSpec)

/-- 'laws.FnExactPlainGrammar', WHERE WHAT IT READS IS OF BULK AT MOST 1048576: true; the input reads as it did. -/
def fnExactPlainGrammarUptoRow : OpenClaim := { program := "ytlkjceolddccbaa", sum := "501b88371767e7b958bc6370987fa5acc05ad839127d744c10c557b06db5aa19", func := "loop.example/g01133/laws.FnExactPlainGrammar", spec := "fnExactPlainGrammar", inPlace := ["internal/bytealg.IndexByteString", "internal/bytealg.IndexString"], unfollowed := true, recurses := true, named := ["internal/bytealg.MaxLen"], apart := false, narrowed := true }
def FnExactPlainGrammarUptoSaid : Prop := fnExactPlainGrammarUptoRow.holds Try.pinned (OpenSpec.upto fnExactPlainGrammarSpec)

/-- 'laws.FnExactIsLevel', WHERE WHAT IT READS IS OF BULK AT MOST 1048576: true; the input reads as it did. -/
def fnExactIsLevelUptoRow : OpenClaim := { program := "ytlkjceolddccbaa", sum := "501b88371767e7b958bc6370987fa5acc05ad839127d744c10c557b06db5aa19", func := "loop.example/g01133/laws.FnExactIsLevel", spec := "fnExactIsLevel", unfollowed := true, recurses := true, apart := false, narrowed := true }
def FnExactIsLevelUptoSaid : Prop := fnExactIsLevelUptoRow.holds Try.pinned (OpenSpec.upto fnExactIsLevelSpec)

/-- 'laws.FnExactValidFactors', WHERE WHAT IT READS IS OF BULK AT MOST 1048576: true; the input reads as it did. -/
def fnExactValidFactorsUptoRow : OpenClaim := { program := "ytlkjceolddccbaa", sum := "501b88371767e7b958bc6370987fa5acc05ad839127d744c10c557b06db5aa19", func := "loop.example/g01133/laws.FnExactValidFactors", spec := "fnExactValidFactors", apart := false, narrowed := true }
def FnExactValidFactorsUptoSaid : Prop := fnExactValidFactorsUptoRow.holds Try.pinned (OpenSpec.upto fnExactValidFactorsSpec)

/-- 'laws.FnExactSameFactors', WHERE WHAT IT READS IS OF BULK AT MOST 1048576: true; the input reads as it did. -/
def fnExactSameFactorsUptoRow : OpenClaim := { program := "ytlkjceolddccbaa", sum := "501b88371767e7b958bc6370987fa5acc05ad839127d744c10c557b06db5aa19", func := "loop.example/g01133/laws.FnExactSameFactors", spec := "fnExactSameFactors", apart := false, narrowed := true }
def FnExactSameFactorsUptoSaid : Prop := fnExactSameFactorsUptoRow.holds Try.pinned (OpenSpec.upto fnExactSameFactorsSpec)

/-- 'laws.FnExactFactorsLength', WHERE WHAT IT READS IS OF BULK AT MOST 1048576: true; the input reads as it did. -/
def fnExactFactorsLengthUptoRow : OpenClaim := { program := "ytlkjceolddccbaa", sum := "501b88371767e7b958bc6370987fa5acc05ad839127d744c10c557b06db5aa19", func := "loop.example/g01133/laws.FnExactFactorsLength", spec := "fnExactFactorsLength", apart := false, narrowed := true }
def FnExactFactorsLengthUptoSaid : Prop := fnExactFactorsLengthUptoRow.holds Try.pinned (OpenSpec.upto fnExactFactorsLengthSpec)

/-- 'laws.FnExactWordOfFactors', WHERE WHAT IT READS IS OF BULK AT MOST 1048576: true; the input reads as it did. -/
def fnExactWordOfFactorsUptoRow : OpenClaim := { program := "ytlkjceolddccbaa", sum := "501b88371767e7b958bc6370987fa5acc05ad839127d744c10c557b06db5aa19", func := "loop.example/g01133/laws.FnExactWordOfFactors", spec := "fnExactWordOfFactors", apart := false, narrowed := true }
def FnExactWordOfFactorsUptoSaid : Prop := fnExactWordOfFactorsUptoRow.holds Try.pinned (OpenSpec.upto fnExactWordOfFactorsSpec)

/-- 'laws.FnExactEmbeddedStart', WHERE WHAT IT READS IS OF BULK AT MOST 1048576: true; the input reads as it did. -/
def fnExactEmbeddedStartUptoRow : OpenClaim := { program := "ytlkjceolddccbaa", sum := "501b88371767e7b958bc6370987fa5acc05ad839127d744c10c557b06db5aa19", func := "loop.example/g01133/laws.FnExactEmbeddedStart", spec := "fnExactEmbeddedStart", inPlace := ["internal/bytealg.IndexByteString", "internal/bytealg.IndexString"], unfollowed := true, recurses := true, named := ["internal/bytealg.MaxLen"], apart := false, narrowed := true }
def FnExactEmbeddedStartUptoSaid : Prop := fnExactEmbeddedStartUptoRow.holds Try.pinned (OpenSpec.upto fnExactEmbeddedStartSpec)

/-- 'laws.FnExactEmbedFirst', WHERE WHAT IT READS IS OF BULK AT MOST 1048576: true; the input reads as it did. -/
def fnExactEmbedFirstUptoRow : OpenClaim := { program := "ytlkjceolddccbaa", sum := "501b88371767e7b958bc6370987fa5acc05ad839127d744c10c557b06db5aa19", func := "loop.example/g01133/laws.FnExactEmbedFirst", spec := "fnExactEmbedFirst", inPlace := ["internal/bytealg.IndexByteString", "internal/bytealg.IndexString"], unfollowed := true, recurses := true, named := ["internal/bytealg.MaxLen"], apart := false, narrowed := true }
def FnExactEmbedFirstUptoSaid : Prop := fnExactEmbedFirstUptoRow.holds Try.pinned (OpenSpec.upto fnExactEmbedFirstSpec)

/-- 'laws.FnExactLongestRuns', WHERE WHAT IT READS IS OF BULK AT MOST 1048576: true; the input reads as it did. -/
def fnExactLongestRunsUptoRow : OpenClaim := { program := "ytlkjceolddccbaa", sum := "501b88371767e7b958bc6370987fa5acc05ad839127d744c10c557b06db5aa19", func := "loop.example/g01133/laws.FnExactLongestRuns", spec := "fnExactLongestRuns", inPlace := ["internal/bytealg.IndexByteString", "internal/bytealg.IndexString"], unfollowed := true, recurses := true, named := ["internal/bytealg.MaxLen"], apart := false, narrowed := true }
def FnExactLongestRunsUptoSaid : Prop := fnExactLongestRunsUptoRow.holds Try.pinned (OpenSpec.upto fnExactLongestRunsSpec)

/-- 'laws.FnExactFactorsOf', WHERE WHAT IT READS IS OF BULK AT MOST 1048576: true; the input reads as it did. -/
def fnExactFactorsOfUptoRow : OpenClaim := { program := "ytlkjceolddccbaa", sum := "501b88371767e7b958bc6370987fa5acc05ad839127d744c10c557b06db5aa19", func := "loop.example/g01133/laws.FnExactFactorsOf", spec := "fnExactFactorsOf", inPlace := ["internal/bytealg.IndexByteString", "internal/bytealg.IndexString"], named := ["internal/bytealg.MaxLen"], apart := false, narrowed := true }
def FnExactFactorsOfUptoSaid : Prop := fnExactFactorsOfUptoRow.holds Try.pinned (OpenSpec.upto fnExactFactorsOfSpec)

/-- 'laws.FnExactRunsOf', WHERE WHAT IT READS IS OF BULK AT MOST 1048576: true; the input reads as it did. -/
def fnExactRunsOfUptoRow : OpenClaim := { program := "ytlkjceolddccbaa", sum := "501b88371767e7b958bc6370987fa5acc05ad839127d744c10c557b06db5aa19", func := "loop.example/g01133/laws.FnExactRunsOf", spec := "fnExactRunsOf", apart := false, narrowed := true }
def FnExactRunsOfUptoSaid : Prop := fnExactRunsOfUptoRow.holds Try.pinned (OpenSpec.upto fnExactRunsOfSpec)

end Rows
end Go.Proofs.Ytlkjceolddccbaa
