/-
  No cell of these rows narrows 'for every input' (looked for: loops, veiled, ifaces, maps, wideKeys, modest, calm, conditions, laid).
  DERIVED. THE GIVEN ROWS OF THIS SEAT. 12 by the template 'for every input the law returns true; each argument reads behind the call as it read before'; 0 by the template 'total and deterministic' (their statements: YtbenlbfommodiaaTotals.lean).
  GIVEN WITH THE SEED: the statements are not yours to turn. If you find one false, say at which input.
  Laid BY PROGRAM, IN A SANDBOX (cutbox-rows.mjs): the forced cells as the released guide's own fill.sh prints them over the translation e0015024214f124a… (all of the seat's roots in one cut). By AI agents, Wed Nov 11 2026. No macro, syntax, notation, axiom, sorry.
-/
import Derived.Test.YtbenlbfommodiaaChecked
import GoSem.Claim
import GoSem.ClaimJoined
import GoSem.ClaimMapViews
import Derived.JoinedTies
import Derived.KernelRfl
namespace Go.Proofs.Ytbenlbfommodiaa
/- THE CELL 'sum', in the pinned program and in every row, IS THE sha256 OF THE DUMP (.gsa) THAT YtbenlbfommodiaaProg.lean LOADS. Nothing in Lean hashes anything: it is a label: what it is worth is what the hold of that sum in a sandbox is worth. -/
noncomputable def Try.pinned : Pinned := { name := "ytbenlbfommodiaa", sum := "e0015024214f124ab3761837582442b730fcbbcb30dee52f263d482d3938b682", checked := Try.checked }
namespace Rows
def none {H : Type} : Left H := { results := [], args := [] }

/-- 'laws.FnExactRunsOf': WHATEVER THE INPUT: true; the input reads as it did. -/
def fnExactRunsOfSpec : ChangeSpec := { name := "fnExactRunsOf", fn := fun _ => fun
  | [d] => { results := [.lit (.bool true)], args := [d] }
  | _ => none }
def fnExactRunsOfRow : OpenClaim := { program := "ytbenlbfommodiaa", sum := "e0015024214f124ab3761837582442b730fcbbcb30dee52f263d482d3938b682", func := "loop.example/g01133/laws.FnExactRunsOf", spec := "fnExactRunsOf", plainKeys := false, apart := false }
def FnExactRunsOfSaid : Prop := fnExactRunsOfRow.holds Try.pinned (OpenSpec.ofChange fnExactRunsOfSpec)

/-- ITS FALSE NEIGHBOUR: 'it returns false'. Refute it at one input. -/
def fnExactRunsOfWrong : ChangeSpec := { name := "fnExactRunsOf", fn := fun _ => fun
  | [d] => { results := [.lit (.bool false)], args := [d] }
  | _ => none }
def FnExactRunsOfWrongFalsely : Prop := fnExactRunsOfRow.holds Try.pinned (OpenSpec.ofChange fnExactRunsOfWrong)

/-- 'laws.FnExactWordOfRuns': WHATEVER THE INPUT: true; the input reads as it did. -/
def fnExactWordOfRunsSpec : ChangeSpec := { name := "fnExactWordOfRuns", fn := fun _ => fun
  | [d] => { results := [.lit (.bool true)], args := [d] }
  | _ => none }
def fnExactWordOfRunsRow : OpenClaim := { program := "ytbenlbfommodiaa", sum := "e0015024214f124ab3761837582442b730fcbbcb30dee52f263d482d3938b682", func := "loop.example/g01133/laws.FnExactWordOfRuns", spec := "fnExactWordOfRuns", inPlace := ["internal/abi.NoEscape", "internal/bytealg.MakeNoZero"], plainKeys := false, apart := false }
def FnExactWordOfRunsSaid : Prop := fnExactWordOfRunsRow.holds Try.pinned (OpenSpec.ofChange fnExactWordOfRunsSpec)

/-- ITS FALSE NEIGHBOUR: 'it returns false'. Refute it at one input. -/
def fnExactWordOfRunsWrong : ChangeSpec := { name := "fnExactWordOfRuns", fn := fun _ => fun
  | [d] => { results := [.lit (.bool false)], args := [d] }
  | _ => none }
def FnExactWordOfRunsWrongFalsely : Prop := fnExactWordOfRunsRow.holds Try.pinned (OpenSpec.ofChange fnExactWordOfRunsWrong)

/-- 'laws.FnExactLeastShift': WHATEVER THE INPUT: true; the input reads as it did. -/
def fnExactLeastShiftSpec : ChangeSpec := { name := "fnExactLeastShift", fn := fun _ => fun
  | [d] => { results := [.lit (.bool true)], args := [d] }
  | _ => none }
def fnExactLeastShiftRow : OpenClaim := { program := "ytbenlbfommodiaa", sum := "e0015024214f124ab3761837582442b730fcbbcb30dee52f263d482d3938b682", func := "loop.example/g01133/laws.FnExactLeastShift", spec := "fnExactLeastShift", unfollowed := true, recurses := true, plainKeys := false, apart := false }
def FnExactLeastShiftSaid : Prop := fnExactLeastShiftRow.holds Try.pinned (OpenSpec.ofChange fnExactLeastShiftSpec)

/-- ITS FALSE NEIGHBOUR: 'it returns false'. Refute it at one input. -/
def fnExactLeastShiftWrong : ChangeSpec := { name := "fnExactLeastShift", fn := fun _ => fun
  | [d] => { results := [.lit (.bool false)], args := [d] }
  | _ => none }
def FnExactLeastShiftWrongFalsely : Prop := fnExactLeastShiftRow.holds Try.pinned (OpenSpec.ofChange fnExactLeastShiftWrong)

/-- 'laws.FnExactShiftTo': WHATEVER THE INPUT: true; the input reads as it did. -/
def fnExactShiftToSpec : ChangeSpec := { name := "fnExactShiftTo", fn := fun _ => fun
  | [d1, d2] => { results := [.lit (.bool true)], args := [d1, d2] }
  | _ => none }
def fnExactShiftToRow : OpenClaim := { program := "ytbenlbfommodiaa", sum := "e0015024214f124ab3761837582442b730fcbbcb30dee52f263d482d3938b682", func := "loop.example/g01133/laws.FnExactShiftTo", spec := "fnExactShiftTo", unfollowed := true, recurses := true, plainKeys := false, apart := false }
def FnExactShiftToSaid : Prop := fnExactShiftToRow.holds Try.pinned (OpenSpec.ofChange fnExactShiftToSpec)

/-- ITS FALSE NEIGHBOUR: 'it returns false'. Refute it at one input. -/
def fnExactShiftToWrong : ChangeSpec := { name := "fnExactShiftTo", fn := fun _ => fun
  | [d1, d2] => { results := [.lit (.bool false)], args := [d1, d2] }
  | _ => none }
def FnExactShiftToWrongFalsely : Prop := fnExactShiftToRow.holds Try.pinned (OpenSpec.ofChange fnExactShiftToWrong)

/-- 'laws.FnExactUnpackPart': WHATEVER THE INPUT: true; the input reads as it did. -/
def fnExactUnpackPartSpec : ChangeSpec := { name := "fnExactUnpackPart", fn := fun _ => fun
  | [d1, d2, d3] => { results := [.lit (.bool true)], args := [d1, d2, d3] }
  | _ => none }
def fnExactUnpackPartRow : OpenClaim := { program := "ytbenlbfommodiaa", sum := "e0015024214f124ab3761837582442b730fcbbcb30dee52f263d482d3938b682", func := "loop.example/g01133/laws.FnExactUnpackPart", spec := "fnExactUnpackPart", inPlace := ["internal/abi.NoEscape"], unfollowed := true, recurses := true, plainKeys := false, apart := false }
def FnExactUnpackPartSaid : Prop := fnExactUnpackPartRow.holds Try.pinned (OpenSpec.ofChange fnExactUnpackPartSpec)

/-- ITS FALSE NEIGHBOUR: 'it returns false'. Refute it at one input. -/
def fnExactUnpackPartWrong : ChangeSpec := { name := "fnExactUnpackPart", fn := fun _ => fun
  | [d1, d2, d3] => { results := [.lit (.bool false)], args := [d1, d2, d3] }
  | _ => none }
def FnExactUnpackPartWrongFalsely : Prop := fnExactUnpackPartRow.holds Try.pinned (OpenSpec.ofChange fnExactUnpackPartWrong)

/-- 'laws.FnExactUnpackWord': WHATEVER THE INPUT: true; the input reads as it did. -/
def fnExactUnpackWordSpec : ChangeSpec := { name := "fnExactUnpackWord", fn := fun _ => fun
  | [d] => { results := [.lit (.bool true)], args := [d] }
  | _ => none }
def fnExactUnpackWordRow : OpenClaim := { program := "ytbenlbfommodiaa", sum := "e0015024214f124ab3761837582442b730fcbbcb30dee52f263d482d3938b682", func := "loop.example/g01133/laws.FnExactUnpackWord", spec := "fnExactUnpackWord", inPlace := ["internal/abi.NoEscape"], unfollowed := true, recurses := true, plainKeys := false, apart := false }
def FnExactUnpackWordSaid : Prop := fnExactUnpackWordRow.holds Try.pinned (OpenSpec.ofChange fnExactUnpackWordSpec)

/-- ITS FALSE NEIGHBOUR: 'it returns false'. Refute it at one input. -/
def fnExactUnpackWordWrong : ChangeSpec := { name := "fnExactUnpackWord", fn := fun _ => fun
  | [d] => { results := [.lit (.bool false)], args := [d] }
  | _ => none }
def FnExactUnpackWordWrongFalsely : Prop := fnExactUnpackWordRow.holds Try.pinned (OpenSpec.ofChange fnExactUnpackWordWrong)

/-- 'laws.FnExactPlainGrammar': WHATEVER THE INPUT: true; the input reads as it did. -/
def fnExactPlainGrammarSpec : ChangeSpec := { name := "fnExactPlainGrammar", fn := fun _ => fun
  | [d] => { results := [.lit (.bool true)], args := [d] }
  | _ => none }
def fnExactPlainGrammarRow : OpenClaim := { program := "ytbenlbfommodiaa", sum := "e0015024214f124ab3761837582442b730fcbbcb30dee52f263d482d3938b682", func := "loop.example/g01133/laws.FnExactPlainGrammar", spec := "fnExactPlainGrammar", inPlace := ["internal/bytealg.IndexByteString", "internal/bytealg.IndexString"], unfollowed := true, recurses := true, named := ["internal/bytealg.MaxLen"], plainKeys := false, apart := false }
def FnExactPlainGrammarSaid : Prop := fnExactPlainGrammarRow.holds Try.pinned (OpenSpec.ofChange fnExactPlainGrammarSpec)

/-- ITS FALSE NEIGHBOUR: 'it returns false'. Refute it at one input. -/
def fnExactPlainGrammarWrong : ChangeSpec := { name := "fnExactPlainGrammar", fn := fun _ => fun
  | [d] => { results := [.lit (.bool false)], args := [d] }
  | _ => none }
def FnExactPlainGrammarWrongFalsely : Prop := fnExactPlainGrammarRow.holds Try.pinned (OpenSpec.ofChange fnExactPlainGrammarWrong)

/-- 'laws.FnExactJoinGrammars': WHATEVER THE INPUT: true; the input reads as it did. -/
def fnExactJoinGrammarsSpec : ChangeSpec := { name := "fnExactJoinGrammars", fn := fun _ => fun
  | [d1, d2] => { results := [.lit (.bool true)], args := [d1, d2] }
  | _ => none }
def fnExactJoinGrammarsRow : OpenClaim := { program := "ytbenlbfommodiaa", sum := "e0015024214f124ab3761837582442b730fcbbcb30dee52f263d482d3938b682", func := "loop.example/g01133/laws.FnExactJoinGrammars", spec := "fnExactJoinGrammars", unfollowed := true, recurses := true, plainKeys := false, apart := false }
def FnExactJoinGrammarsSaid : Prop := fnExactJoinGrammarsRow.holds Try.pinned (OpenSpec.ofChange fnExactJoinGrammarsSpec)

/-- ITS FALSE NEIGHBOUR: 'it returns false'. Refute it at one input. -/
def fnExactJoinGrammarsWrong : ChangeSpec := { name := "fnExactJoinGrammars", fn := fun _ => fun
  | [d1, d2] => { results := [.lit (.bool false)], args := [d1, d2] }
  | _ => none }
def FnExactJoinGrammarsWrongFalsely : Prop := fnExactJoinGrammarsRow.holds Try.pinned (OpenSpec.ofChange fnExactJoinGrammarsWrong)

/-- 'laws.FnExactPartGrammar': WHATEVER THE INPUT: true; the input reads as it did. -/
def fnExactPartGrammarSpec : ChangeSpec := { name := "fnExactPartGrammar", fn := fun _ => fun
  | [d1, d2, d3] => { results := [.lit (.bool true)], args := [d1, d2, d3] }
  | _ => none }
def fnExactPartGrammarRow : OpenClaim := { program := "ytbenlbfommodiaa", sum := "e0015024214f124ab3761837582442b730fcbbcb30dee52f263d482d3938b682", func := "loop.example/g01133/laws.FnExactPartGrammar", spec := "fnExactPartGrammar", unfollowed := true, recurses := true, plainKeys := false, apart := false }
def FnExactPartGrammarSaid : Prop := fnExactPartGrammarRow.holds Try.pinned (OpenSpec.ofChange fnExactPartGrammarSpec)

/-- ITS FALSE NEIGHBOUR: 'it returns false'. Refute it at one input. -/
def fnExactPartGrammarWrong : ChangeSpec := { name := "fnExactPartGrammar", fn := fun _ => fun
  | [d1, d2, d3] => { results := [.lit (.bool false)], args := [d1, d2, d3] }
  | _ => none }
def FnExactPartGrammarWrongFalsely : Prop := fnExactPartGrammarRow.holds Try.pinned (OpenSpec.ofChange fnExactPartGrammarWrong)

/-- 'laws.FnExactMapLetters': WHATEVER THE INPUT: true; the input reads as it did. -/
def fnExactMapLettersSpec : ChangeSpec := { name := "fnExactMapLetters", fn := fun _ => fun
  | [d1, d2] => { results := [.lit (.bool true)], args := [d1, d2] }
  | _ => none }
def fnExactMapLettersRow : OpenClaim := { program := "ytbenlbfommodiaa", sum := "e0015024214f124ab3761837582442b730fcbbcb30dee52f263d482d3938b682", func := "loop.example/g01133/laws.FnExactMapLetters", spec := "fnExactMapLetters", inPlace := ["internal/bytealg.IndexByteString", "internal/bytealg.IndexString"], unfollowed := true, recurses := true, named := ["internal/bytealg.MaxLen"], plainKeys := false, apart := false }
def FnExactMapLettersSaid : Prop := fnExactMapLettersRow.holds Try.pinned (OpenSpec.ofChange fnExactMapLettersSpec)

/-- ITS FALSE NEIGHBOUR: 'it returns false'. Refute it at one input. -/
def fnExactMapLettersWrong : ChangeSpec := { name := "fnExactMapLetters", fn := fun _ => fun
  | [d1, d2] => { results := [.lit (.bool false)], args := [d1, d2] }
  | _ => none }
def FnExactMapLettersWrongFalsely : Prop := fnExactMapLettersRow.holds Try.pinned (OpenSpec.ofChange fnExactMapLettersWrong)

/-- 'laws.FnExactTrimGrammar': WHATEVER THE INPUT: true; the input reads as it did. -/
def fnExactTrimGrammarSpec : ChangeSpec := { name := "fnExactTrimGrammar", fn := fun _ => fun
  | [d] => { results := [.lit (.bool true)], args := [d] }
  | _ => none }
def fnExactTrimGrammarRow : OpenClaim := { program := "ytbenlbfommodiaa", sum := "e0015024214f124ab3761837582442b730fcbbcb30dee52f263d482d3938b682", func := "loop.example/g01133/laws.FnExactTrimGrammar", spec := "fnExactTrimGrammar", unfollowed := true, recurses := true, plainKeys := false, apart := false }
def FnExactTrimGrammarSaid : Prop := fnExactTrimGrammarRow.holds Try.pinned (OpenSpec.ofChange fnExactTrimGrammarSpec)

/-- ITS FALSE NEIGHBOUR: 'it returns false'. Refute it at one input. -/
def fnExactTrimGrammarWrong : ChangeSpec := { name := "fnExactTrimGrammar", fn := fun _ => fun
  | [d] => { results := [.lit (.bool false)], args := [d] }
  | _ => none }
def FnExactTrimGrammarWrongFalsely : Prop := fnExactTrimGrammarRow.holds Try.pinned (OpenSpec.ofChange fnExactTrimGrammarWrong)

/-- 'laws.FnExactLetterCounts': WHATEVER THE INPUT: true; the input reads as it did. -/
def fnExactLetterCountsSpec : ChangeSpec := { name := "fnExactLetterCounts", fn := fun _ => fun
  | [d] => { results := [.lit (.bool true)], args := [d] }
  | _ => none }
def fnExactLetterCountsRow : OpenClaim := { program := "ytbenlbfommodiaa", sum := "e0015024214f124ab3761837582442b730fcbbcb30dee52f263d482d3938b682", func := "loop.example/g01133/laws.FnExactLetterCounts", spec := "fnExactLetterCounts", inPlace := ["internal/bytealg.IndexByteString", "internal/bytealg.IndexString"], unfollowed := true, recurses := true, named := ["internal/bytealg.MaxLen"], plainKeys := false, apart := false }
def FnExactLetterCountsSaid : Prop := fnExactLetterCountsRow.holds Try.pinned (OpenSpec.ofChange fnExactLetterCountsSpec)

/-- ITS FALSE NEIGHBOUR: 'it returns false'. Refute it at one input. -/
def fnExactLetterCountsWrong : ChangeSpec := { name := "fnExactLetterCounts", fn := fun _ => fun
  | [d] => { results := [.lit (.bool false)], args := [d] }
  | _ => none }
def FnExactLetterCountsWrongFalsely : Prop := fnExactLetterCountsRow.holds Try.pinned (OpenSpec.ofChange fnExactLetterCountsWrong)

/- THE SECOND FORM. 'bulk': how many values and letters a reading holds, each counted each time it is reached (what is shared counts as often as it is met; a slice's spare places count too). A statement '..UptoSaid' is the law's where the arguments, and the package variables that the reading takes, are together of bulk at most 1048576: NARROWER than '..Said'. Prove '..Said' where nothing that the law and all that it calls make is longer than what came in: it says more and counts as full. Else prove '..UptoSaid'. A law counts once. -/
mutual
def uptoBulk {H : Type} : DataW H → Nat
  | .lit (.string bytes) => bytes.length + 1
  | .lit _ => 1
  | .nil => 1
  | .ptr d => uptoBulk d + 1
  | .slice elems spare => uptoBulkAll elems + uptoBulkAll spare + 1
  | .agg parts => uptoBulkAll parts + 1
  | .iface _ d => uptoBulk d + 1
  | .map entries => uptoBulkEntries entries + 1
  | .held _ => 1
def uptoBulkAll {H : Type} : List (DataW H) → Nat
  | [] => 0
  | d :: r => uptoBulk d + uptoBulkAll r
def uptoBulkEntries {H : Type} : List (Lit × DataW H) → Nat
  | [] => 0
  | x :: r => uptoBulkEntry x + uptoBulkEntries r
def uptoBulkEntry {H : Type} : Lit × DataW H → Nat
  | (.string bytes, d) => bytes.length + uptoBulk d + 1
  | (_, d) => uptoBulk d + 1
 end
def uptoSmall : (H : Type) → List (DataW H) → Bool := fun _ ds => decide (uptoBulkAll ds ≤ 1048576)
def OpenSpec.upto (s : _root_.Go.ChangeSpec) : _root_.Go.OpenSpec := { _root_.Go.OpenSpec.ofChange s with cond := some uptoSmall }

/-- 'laws.FnExactRunsOf', WHERE WHAT IT READS IS OF BULK AT MOST 1048576: true; the input reads as it did. -/
def fnExactRunsOfUptoRow : OpenClaim := { program := "ytbenlbfommodiaa", sum := "e0015024214f124ab3761837582442b730fcbbcb30dee52f263d482d3938b682", func := "loop.example/g01133/laws.FnExactRunsOf", spec := "fnExactRunsOf", plainKeys := false, apart := false, narrowed := true }
def FnExactRunsOfUptoSaid : Prop := fnExactRunsOfUptoRow.holds Try.pinned (OpenSpec.upto fnExactRunsOfSpec)

/-- 'laws.FnExactWordOfRuns', WHERE WHAT IT READS IS OF BULK AT MOST 1048576: true; the input reads as it did. -/
def fnExactWordOfRunsUptoRow : OpenClaim := { program := "ytbenlbfommodiaa", sum := "e0015024214f124ab3761837582442b730fcbbcb30dee52f263d482d3938b682", func := "loop.example/g01133/laws.FnExactWordOfRuns", spec := "fnExactWordOfRuns", inPlace := ["internal/abi.NoEscape", "internal/bytealg.MakeNoZero"], plainKeys := false, apart := false, narrowed := true }
def FnExactWordOfRunsUptoSaid : Prop := fnExactWordOfRunsUptoRow.holds Try.pinned (OpenSpec.upto fnExactWordOfRunsSpec)

/-- 'laws.FnExactLeastShift', WHERE WHAT IT READS IS OF BULK AT MOST 1048576: true; the input reads as it did. -/
def fnExactLeastShiftUptoRow : OpenClaim := { program := "ytbenlbfommodiaa", sum := "e0015024214f124ab3761837582442b730fcbbcb30dee52f263d482d3938b682", func := "loop.example/g01133/laws.FnExactLeastShift", spec := "fnExactLeastShift", unfollowed := true, recurses := true, plainKeys := false, apart := false, narrowed := true }
def FnExactLeastShiftUptoSaid : Prop := fnExactLeastShiftUptoRow.holds Try.pinned (OpenSpec.upto fnExactLeastShiftSpec)

/-- 'laws.FnExactShiftTo', WHERE WHAT IT READS IS OF BULK AT MOST 1048576: true; the input reads as it did. -/
def fnExactShiftToUptoRow : OpenClaim := { program := "ytbenlbfommodiaa", sum := "e0015024214f124ab3761837582442b730fcbbcb30dee52f263d482d3938b682", func := "loop.example/g01133/laws.FnExactShiftTo", spec := "fnExactShiftTo", unfollowed := true, recurses := true, plainKeys := false, apart := false, narrowed := true }
def FnExactShiftToUptoSaid : Prop := fnExactShiftToUptoRow.holds Try.pinned (OpenSpec.upto fnExactShiftToSpec)

/-- 'laws.FnExactUnpackPart', WHERE WHAT IT READS IS OF BULK AT MOST 1048576: true; the input reads as it did. -/
def fnExactUnpackPartUptoRow : OpenClaim := { program := "ytbenlbfommodiaa", sum := "e0015024214f124ab3761837582442b730fcbbcb30dee52f263d482d3938b682", func := "loop.example/g01133/laws.FnExactUnpackPart", spec := "fnExactUnpackPart", inPlace := ["internal/abi.NoEscape"], unfollowed := true, recurses := true, plainKeys := false, apart := false, narrowed := true }
def FnExactUnpackPartUptoSaid : Prop := fnExactUnpackPartUptoRow.holds Try.pinned (OpenSpec.upto fnExactUnpackPartSpec)

/-- 'laws.FnExactUnpackWord', WHERE WHAT IT READS IS OF BULK AT MOST 1048576: true; the input reads as it did. -/
def fnExactUnpackWordUptoRow : OpenClaim := { program := "ytbenlbfommodiaa", sum := "e0015024214f124ab3761837582442b730fcbbcb30dee52f263d482d3938b682", func := "loop.example/g01133/laws.FnExactUnpackWord", spec := "fnExactUnpackWord", inPlace := ["internal/abi.NoEscape"], unfollowed := true, recurses := true, plainKeys := false, apart := false, narrowed := true }
def FnExactUnpackWordUptoSaid : Prop := fnExactUnpackWordUptoRow.holds Try.pinned (OpenSpec.upto fnExactUnpackWordSpec)

/-- 'laws.FnExactPlainGrammar', WHERE WHAT IT READS IS OF BULK AT MOST 1048576: true; the input reads as it did. -/
def fnExactPlainGrammarUptoRow : OpenClaim := { program := "ytbenlbfommodiaa", sum := "e0015024214f124ab3761837582442b730fcbbcb30dee52f263d482d3938b682", func := "loop.example/g01133/laws.FnExactPlainGrammar", spec := "fnExactPlainGrammar", inPlace := ["internal/bytealg.IndexByteString", "internal/bytealg.IndexString"], unfollowed := true, recurses := true, named := ["internal/bytealg.MaxLen"], plainKeys := false, apart := false, narrowed := true }
def FnExactPlainGrammarUptoSaid : Prop := fnExactPlainGrammarUptoRow.holds Try.pinned (OpenSpec.upto fnExactPlainGrammarSpec)

/-- 'laws.FnExactJoinGrammars', WHERE WHAT IT READS IS OF BULK AT MOST 1048576: true; the input reads as it did. -/
def fnExactJoinGrammarsUptoRow : OpenClaim := { program := "ytbenlbfommodiaa", sum := "e0015024214f124ab3761837582442b730fcbbcb30dee52f263d482d3938b682", func := "loop.example/g01133/laws.FnExactJoinGrammars", spec := "fnExactJoinGrammars", unfollowed := true, recurses := true, plainKeys := false, apart := false, narrowed := true }
def FnExactJoinGrammarsUptoSaid : Prop := fnExactJoinGrammarsUptoRow.holds Try.pinned (OpenSpec.upto fnExactJoinGrammarsSpec)

/-- 'laws.FnExactPartGrammar', WHERE WHAT IT READS IS OF BULK AT MOST 1048576: true; the input reads as it did. -/
def fnExactPartGrammarUptoRow : OpenClaim := { program := "ytbenlbfommodiaa", sum := "e0015024214f124ab3761837582442b730fcbbcb30dee52f263d482d3938b682", func := "loop.example/g01133/laws.FnExactPartGrammar", spec := "fnExactPartGrammar", unfollowed := true, recurses := true, plainKeys := false, apart := false, narrowed := true }
def FnExactPartGrammarUptoSaid : Prop := fnExactPartGrammarUptoRow.holds Try.pinned (OpenSpec.upto fnExactPartGrammarSpec)

/-- 'laws.FnExactMapLetters', WHERE WHAT IT READS IS OF BULK AT MOST 1048576: true; the input reads as it did. -/
def fnExactMapLettersUptoRow : OpenClaim := { program := "ytbenlbfommodiaa", sum := "e0015024214f124ab3761837582442b730fcbbcb30dee52f263d482d3938b682", func := "loop.example/g01133/laws.FnExactMapLetters", spec := "fnExactMapLetters", inPlace := ["internal/bytealg.IndexByteString", "internal/bytealg.IndexString"], unfollowed := true, recurses := true, named := ["internal/bytealg.MaxLen"], plainKeys := false, apart := false, narrowed := true }
def FnExactMapLettersUptoSaid : Prop := fnExactMapLettersUptoRow.holds Try.pinned (OpenSpec.upto fnExactMapLettersSpec)

/-- 'laws.FnExactTrimGrammar', WHERE WHAT IT READS IS OF BULK AT MOST 1048576: true; the input reads as it did. -/
def fnExactTrimGrammarUptoRow : OpenClaim := { program := "ytbenlbfommodiaa", sum := "e0015024214f124ab3761837582442b730fcbbcb30dee52f263d482d3938b682", func := "loop.example/g01133/laws.FnExactTrimGrammar", spec := "fnExactTrimGrammar", unfollowed := true, recurses := true, plainKeys := false, apart := false, narrowed := true }
def FnExactTrimGrammarUptoSaid : Prop := fnExactTrimGrammarUptoRow.holds Try.pinned (OpenSpec.upto fnExactTrimGrammarSpec)

/-- 'laws.FnExactLetterCounts', WHERE WHAT IT READS IS OF BULK AT MOST 1048576: true; the input reads as it did. -/
def fnExactLetterCountsUptoRow : OpenClaim := { program := "ytbenlbfommodiaa", sum := "e0015024214f124ab3761837582442b730fcbbcb30dee52f263d482d3938b682", func := "loop.example/g01133/laws.FnExactLetterCounts", spec := "fnExactLetterCounts", inPlace := ["internal/bytealg.IndexByteString", "internal/bytealg.IndexString"], unfollowed := true, recurses := true, named := ["internal/bytealg.MaxLen"], plainKeys := false, apart := false, narrowed := true }
def FnExactLetterCountsUptoSaid : Prop := fnExactLetterCountsUptoRow.holds Try.pinned (OpenSpec.upto fnExactLetterCountsSpec)

end Rows
end Go.Proofs.Ytbenlbfommodiaa
