/-
  No cell of these rows narrows 'for every input' (looked for: loops, veiled, ifaces, maps, wideKeys, modest, calm, conditions, laid).
  DERIVED. THE GIVEN ROWS OF THIS SEAT. 11 by the template 'for every input the law returns true; each argument reads behind the call as it read before'; 0 by the template 'total and deterministic' (their statements: YtlgpleeanmeenaaTotals.lean).
  GIVEN WITH THE SEED: the statements are not yours to turn. If you find one false, say at which input.
  Laid BY PROGRAM, IN A SANDBOX (cutbox-rows.mjs): the forced cells as the released guide's own fill.sh prints them over the translation 42a6faf8ccbe62f8… (all of the seat's roots in one cut). By AI agents, Wed Nov 11 2026. No macro, syntax, notation, axiom, sorry.
-/
import Derived.Test.YtlgpleeanmeenaaChecked
import GoSem.Claim
import GoSem.ClaimJoined
import GoSem.ClaimMapViews
import Derived.JoinedTies
import Derived.KernelRfl
namespace Go.Proofs.Ytlgpleeanmeenaa
/- THE CELL 'sum', in the pinned program and in every row, IS THE sha256 OF THE DUMP (.gsa) THAT YtlgpleeanmeenaaProg.lean LOADS. Nothing in Lean hashes anything: it is a label: what it is worth is what the hold of that sum in a sandbox is worth. -/
noncomputable def Try.pinned : Pinned := { name := "ytlgpleeanmeenaa", sum := "42a6faf8ccbe62f864b672c73beaf5a6bbef845a400581eb13107deb29e7b1f5", checked := Try.checked }
namespace Rows
def none {H : Type} : Left H := { results := [], args := [] }

/-- 'laws.FnExactFactorsGrammar': WHATEVER THE INPUT: true; the input reads as it did. -/
def fnExactFactorsGrammarSpec : ChangeSpec := { name := "fnExactFactorsGrammar", fn := fun _ => fun
  | [d] => { results := [.lit (.bool true)], args := [d] }
  | _ => none }
def fnExactFactorsGrammarRow : OpenClaim := { program := "ytlgpleeanmeenaa", sum := "42a6faf8ccbe62f864b672c73beaf5a6bbef845a400581eb13107deb29e7b1f5", func := "loop.example/g01133/laws.FnExactFactorsGrammar", spec := "fnExactFactorsGrammar", inPlace := ["internal/bytealg.IndexByteString", "internal/bytealg.IndexString"], unfollowed := true, recurses := true, named := ["internal/bytealg.MaxLen"], plainKeys := false, apart := false }
def FnExactFactorsGrammarSaid : Prop := fnExactFactorsGrammarRow.holds Try.pinned (OpenSpec.ofChange fnExactFactorsGrammarSpec)

/-- ITS FALSE NEIGHBOUR: 'it returns false'. Refute it at one input. -/
def fnExactFactorsGrammarWrong : ChangeSpec := { name := "fnExactFactorsGrammar", fn := fun _ => fun
  | [d] => { results := [.lit (.bool false)], args := [d] }
  | _ => none }
def FnExactFactorsGrammarWrongFalsely : Prop := fnExactFactorsGrammarRow.holds Try.pinned (OpenSpec.ofChange fnExactFactorsGrammarWrong)

/-- 'laws.FnExactPlainGrammar': WHATEVER THE INPUT: true; the input reads as it did. -/
def fnExactPlainGrammarSpec : ChangeSpec := { name := "fnExactPlainGrammar", fn := fun _ => fun
  | [d] => { results := [.lit (.bool true)], args := [d] }
  | _ => none }
def fnExactPlainGrammarRow : OpenClaim := { program := "ytlgpleeanmeenaa", sum := "42a6faf8ccbe62f864b672c73beaf5a6bbef845a400581eb13107deb29e7b1f5", func := "loop.example/g01133/laws.FnExactPlainGrammar", spec := "fnExactPlainGrammar", inPlace := ["internal/bytealg.IndexByteString", "internal/bytealg.IndexString"], unfollowed := true, recurses := true, named := ["internal/bytealg.MaxLen"], plainKeys := false, apart := false }
def FnExactPlainGrammarSaid : Prop := fnExactPlainGrammarRow.holds Try.pinned (OpenSpec.ofChange fnExactPlainGrammarSpec)

/-- ITS FALSE NEIGHBOUR: 'it returns false'. Refute it at one input. -/
def fnExactPlainGrammarWrong : ChangeSpec := { name := "fnExactPlainGrammar", fn := fun _ => fun
  | [d] => { results := [.lit (.bool false)], args := [d] }
  | _ => none }
def FnExactPlainGrammarWrongFalsely : Prop := fnExactPlainGrammarRow.holds Try.pinned (OpenSpec.ofChange fnExactPlainGrammarWrong)

/-- 'laws.FnExactValidFactors': WHATEVER THE INPUT: true; the input reads as it did. -/
def fnExactValidFactorsSpec : ChangeSpec := { name := "fnExactValidFactors", fn := fun _ => fun
  | [d] => { results := [.lit (.bool true)], args := [d] }
  | _ => none }
def fnExactValidFactorsRow : OpenClaim := { program := "ytlgpleeanmeenaa", sum := "42a6faf8ccbe62f864b672c73beaf5a6bbef845a400581eb13107deb29e7b1f5", func := "loop.example/g01133/laws.FnExactValidFactors", spec := "fnExactValidFactors", plainKeys := false, apart := false }
def FnExactValidFactorsSaid : Prop := fnExactValidFactorsRow.holds Try.pinned (OpenSpec.ofChange fnExactValidFactorsSpec)

/-- ITS FALSE NEIGHBOUR: 'it returns false'. Refute it at one input. -/
def fnExactValidFactorsWrong : ChangeSpec := { name := "fnExactValidFactors", fn := fun _ => fun
  | [d] => { results := [.lit (.bool false)], args := [d] }
  | _ => none }
def FnExactValidFactorsWrongFalsely : Prop := fnExactValidFactorsRow.holds Try.pinned (OpenSpec.ofChange fnExactValidFactorsWrong)

/-- 'laws.FnExactRunsOf': WHATEVER THE INPUT: true; the input reads as it did. -/
def fnExactRunsOfSpec : ChangeSpec := { name := "fnExactRunsOf", fn := fun _ => fun
  | [d] => { results := [.lit (.bool true)], args := [d] }
  | _ => none }
def fnExactRunsOfRow : OpenClaim := { program := "ytlgpleeanmeenaa", sum := "42a6faf8ccbe62f864b672c73beaf5a6bbef845a400581eb13107deb29e7b1f5", func := "loop.example/g01133/laws.FnExactRunsOf", spec := "fnExactRunsOf", plainKeys := false, apart := false }
def FnExactRunsOfSaid : Prop := fnExactRunsOfRow.holds Try.pinned (OpenSpec.ofChange fnExactRunsOfSpec)

/-- ITS FALSE NEIGHBOUR: 'it returns false'. Refute it at one input. -/
def fnExactRunsOfWrong : ChangeSpec := { name := "fnExactRunsOf", fn := fun _ => fun
  | [d] => { results := [.lit (.bool false)], args := [d] }
  | _ => none }
def FnExactRunsOfWrongFalsely : Prop := fnExactRunsOfRow.holds Try.pinned (OpenSpec.ofChange fnExactRunsOfWrong)

/-- 'laws.FnExactWordOfRuns': WHATEVER THE INPUT: true; the input reads as it did. -/
def fnExactWordOfRunsSpec : ChangeSpec := { name := "fnExactWordOfRuns", fn := fun _ => fun
  | [d] => { results := [.lit (.bool true)], args := [d] }
  | _ => none }
def fnExactWordOfRunsRow : OpenClaim := { program := "ytlgpleeanmeenaa", sum := "42a6faf8ccbe62f864b672c73beaf5a6bbef845a400581eb13107deb29e7b1f5", func := "loop.example/g01133/laws.FnExactWordOfRuns", spec := "fnExactWordOfRuns", inPlace := ["internal/abi.NoEscape", "internal/bytealg.MakeNoZero"], plainKeys := false, apart := false }
def FnExactWordOfRunsSaid : Prop := fnExactWordOfRunsRow.holds Try.pinned (OpenSpec.ofChange fnExactWordOfRunsSpec)

/-- ITS FALSE NEIGHBOUR: 'it returns false'. Refute it at one input. -/
def fnExactWordOfRunsWrong : ChangeSpec := { name := "fnExactWordOfRuns", fn := fun _ => fun
  | [d] => { results := [.lit (.bool false)], args := [d] }
  | _ => none }
def FnExactWordOfRunsWrongFalsely : Prop := fnExactWordOfRunsRow.holds Try.pinned (OpenSpec.ofChange fnExactWordOfRunsWrong)

/-- 'laws.FnExactRunsGrammar': WHATEVER THE INPUT: true; the input reads as it did. -/
def fnExactRunsGrammarSpec : ChangeSpec := { name := "fnExactRunsGrammar", fn := fun _ => fun
  | [d] => { results := [.lit (.bool true)], args := [d] }
  | _ => none }
def fnExactRunsGrammarRow : OpenClaim := { program := "ytlgpleeanmeenaa", sum := "42a6faf8ccbe62f864b672c73beaf5a6bbef845a400581eb13107deb29e7b1f5", func := "loop.example/g01133/laws.FnExactRunsGrammar", spec := "fnExactRunsGrammar", inPlace := ["internal/bytealg.IndexByteString", "internal/bytealg.IndexString"], unfollowed := true, recurses := true, named := ["internal/bytealg.MaxLen"], plainKeys := false, apart := false }
def FnExactRunsGrammarSaid : Prop := fnExactRunsGrammarRow.holds Try.pinned (OpenSpec.ofChange fnExactRunsGrammarSpec)

/-- ITS FALSE NEIGHBOUR: 'it returns false'. Refute it at one input. -/
def fnExactRunsGrammarWrong : ChangeSpec := { name := "fnExactRunsGrammar", fn := fun _ => fun
  | [d] => { results := [.lit (.bool false)], args := [d] }
  | _ => none }
def FnExactRunsGrammarWrongFalsely : Prop := fnExactRunsGrammarRow.holds Try.pinned (OpenSpec.ofChange fnExactRunsGrammarWrong)

/-- 'laws.FnExactValidEdit': WHATEVER THE INPUT: true; the input reads as it did. -/
def fnExactValidEditSpec : ChangeSpec := { name := "fnExactValidEdit", fn := fun _ => fun
  | [d] => { results := [.lit (.bool true)], args := [d] }
  | _ => none }
def fnExactValidEditRow : OpenClaim := { program := "ytlgpleeanmeenaa", sum := "42a6faf8ccbe62f864b672c73beaf5a6bbef845a400581eb13107deb29e7b1f5", func := "loop.example/g01133/laws.FnExactValidEdit", spec := "fnExactValidEdit", unfollowed := true, recurses := true, plainKeys := false, apart := false }
def FnExactValidEditSaid : Prop := fnExactValidEditRow.holds Try.pinned (OpenSpec.ofChange fnExactValidEditSpec)

/-- ITS FALSE NEIGHBOUR: 'it returns false'. Refute it at one input. -/
def fnExactValidEditWrong : ChangeSpec := { name := "fnExactValidEdit", fn := fun _ => fun
  | [d] => { results := [.lit (.bool false)], args := [d] }
  | _ => none }
def FnExactValidEditWrongFalsely : Prop := fnExactValidEditRow.holds Try.pinned (OpenSpec.ofChange fnExactValidEditWrong)

/-- 'laws.FnExactPassEdit': WHATEVER THE INPUT: true; the input reads as it did. -/
def fnExactPassEditSpec : ChangeSpec := { name := "fnExactPassEdit", fn := fun _ => fun
  | [d1, d2, d3] => { results := [.lit (.bool true)], args := [d1, d2, d3] }
  | _ => none }
def fnExactPassEditRow : OpenClaim := { program := "ytlgpleeanmeenaa", sum := "42a6faf8ccbe62f864b672c73beaf5a6bbef845a400581eb13107deb29e7b1f5", func := "loop.example/g01133/laws.FnExactPassEdit", spec := "fnExactPassEdit", unfollowed := true, recurses := true, plainKeys := false, apart := false }
def FnExactPassEditSaid : Prop := fnExactPassEditRow.holds Try.pinned (OpenSpec.ofChange fnExactPassEditSpec)

/-- ITS FALSE NEIGHBOUR: 'it returns false'. Refute it at one input. -/
def fnExactPassEditWrong : ChangeSpec := { name := "fnExactPassEdit", fn := fun _ => fun
  | [d1, d2, d3] => { results := [.lit (.bool false)], args := [d1, d2, d3] }
  | _ => none }
def FnExactPassEditWrongFalsely : Prop := fnExactPassEditRow.holds Try.pinned (OpenSpec.ofChange fnExactPassEditWrong)

/-- 'laws.FnRuns': WHATEVER THE INPUT: true; the input reads as it did. -/
def fnRunsSpec : ChangeSpec := { name := "fnRuns", fn := fun _ => fun
  | [d1, d2] => { results := [.lit (.bool true)], args := [d1, d2] }
  | _ => none }
def fnRunsRow : OpenClaim := { program := "ytlgpleeanmeenaa", sum := "42a6faf8ccbe62f864b672c73beaf5a6bbef845a400581eb13107deb29e7b1f5", func := "loop.example/g01133/laws.FnRuns", spec := "fnRuns", inPlace := ["internal/abi.NoEscape", "internal/bytealg.MakeNoZero"], plainKeys := false, apart := false }
def FnRunsSaid : Prop := fnRunsRow.holds Try.pinned (OpenSpec.ofChange fnRunsSpec)

/-- ITS FALSE NEIGHBOUR: 'it returns false'. Refute it at one input. -/
def fnRunsWrong : ChangeSpec := { name := "fnRuns", fn := fun _ => fun
  | [d1, d2] => { results := [.lit (.bool false)], args := [d1, d2] }
  | _ => none }
def FnRunsWrongFalsely : Prop := fnRunsRow.holds Try.pinned (OpenSpec.ofChange fnRunsWrong)

/-- 'laws.FnExactMapLetters': WHATEVER THE INPUT: true; the input reads as it did. -/
def fnExactMapLettersSpec : ChangeSpec := { name := "fnExactMapLetters", fn := fun _ => fun
  | [d1, d2] => { results := [.lit (.bool true)], args := [d1, d2] }
  | _ => none }
def fnExactMapLettersRow : OpenClaim := { program := "ytlgpleeanmeenaa", sum := "42a6faf8ccbe62f864b672c73beaf5a6bbef845a400581eb13107deb29e7b1f5", func := "loop.example/g01133/laws.FnExactMapLetters", spec := "fnExactMapLetters", inPlace := ["internal/bytealg.IndexByteString", "internal/bytealg.IndexString"], unfollowed := true, recurses := true, named := ["internal/bytealg.MaxLen"], plainKeys := false, apart := false }
def FnExactMapLettersSaid : Prop := fnExactMapLettersRow.holds Try.pinned (OpenSpec.ofChange fnExactMapLettersSpec)

/-- ITS FALSE NEIGHBOUR: 'it returns false'. Refute it at one input. -/
def fnExactMapLettersWrong : ChangeSpec := { name := "fnExactMapLetters", fn := fun _ => fun
  | [d1, d2] => { results := [.lit (.bool false)], args := [d1, d2] }
  | _ => none }
def FnExactMapLettersWrongFalsely : Prop := fnExactMapLettersRow.holds Try.pinned (OpenSpec.ofChange fnExactMapLettersWrong)

/-- 'laws.FnExactLongestRuns': WHATEVER THE INPUT: true; the input reads as it did. -/
def fnExactLongestRunsSpec : ChangeSpec := { name := "fnExactLongestRuns", fn := fun _ => fun
  | [d] => { results := [.lit (.bool true)], args := [d] }
  | _ => none }
def fnExactLongestRunsRow : OpenClaim := { program := "ytlgpleeanmeenaa", sum := "42a6faf8ccbe62f864b672c73beaf5a6bbef845a400581eb13107deb29e7b1f5", func := "loop.example/g01133/laws.FnExactLongestRuns", spec := "fnExactLongestRuns", inPlace := ["internal/bytealg.IndexByteString", "internal/bytealg.IndexString"], unfollowed := true, recurses := true, named := ["internal/bytealg.MaxLen"], plainKeys := false, apart := false }
def FnExactLongestRunsSaid : Prop := fnExactLongestRunsRow.holds Try.pinned (OpenSpec.ofChange fnExactLongestRunsSpec)

/-- ITS FALSE NEIGHBOUR: 'it returns false'. Refute it at one input. -/
def fnExactLongestRunsWrong : ChangeSpec := { name := "fnExactLongestRuns", fn := fun _ => fun
  | [d] => { results := [.lit (.bool false)], args := [d] }
  | _ => none }
def FnExactLongestRunsWrongFalsely : Prop := fnExactLongestRunsRow.holds Try.pinned (OpenSpec.ofChange fnExactLongestRunsWrong)

/- THE SECOND FORM. 'bulk': how many values and letters a reading holds, each counted each time it is reached (what is shared counts as often as it is met; a slice's spare places count too). A statement '..UptoSaid' is the law's where the arguments, and the package variables that the reading takes, are together of bulk at most 1048576: NARROWER than '..Said'. Prove '..Said' where nothing that the law and all that it calls make is longer than what came in: it says more and counts as full. Else prove '..UptoSaid'. A law counts once. -/
mutual
def uptoBulk {H : Type} : DataW H → Nat
  | .lit (.string bytes) => bytes.length + 1
  | .lit _ => 1
  | .nil => 1
  | .ptr d => uptoBulk d + 1
  | .slice elems spare => uptoBulkAll elems + uptoBulkAll spare + 1
  | .agg parts => uptoBulkAll parts + 1
  | .iface _ d => uptoBulk d + 1
  | .map entries => uptoBulkEntries entries + 1
  | .held _ => 1
def uptoBulkAll {H : Type} : List (DataW H) → Nat
  | [] => 0
  | d :: r => uptoBulk d + uptoBulkAll r
def uptoBulkEntries {H : Type} : List (Lit × DataW H) → Nat
  | [] => 0
  | x :: r => uptoBulkEntry x + uptoBulkEntries r
def uptoBulkEntry {H : Type} : Lit × DataW H → Nat
  | (.string bytes, d) => bytes.length + uptoBulk d + 1
  | (_, d) => uptoBulk d + 1
 end
def uptoSmall : (H : Type) → List (DataW H) → Bool := fun _ ds => decide (uptoBulkAll ds ≤ 1048576)
def OpenSpec.upto (s : _root_.Go.ChangeSpec) : _root_.Go.OpenSpec := { _root_.Go.OpenSpec.ofChange s with cond := some uptoSmall }

/-- 'laws.FnExactFactorsGrammar', WHERE WHAT IT READS IS OF BULK AT MOST 1048576: true; the input reads as it did. -/
def fnExactFactorsGrammarUptoRow : OpenClaim := { program := "ytlgpleeanmeenaa", sum := "42a6faf8ccbe62f864b672c73beaf5a6bbef845a400581eb13107deb29e7b1f5", func := "loop.example/g01133/laws.FnExactFactorsGrammar", spec := "fnExactFactorsGrammar", inPlace := ["internal/bytealg.IndexByteString", "internal/bytealg.IndexString"], unfollowed := true, recurses := true, named := ["internal/bytealg.MaxLen"], plainKeys := false, apart := false, narrowed := true }
def FnExactFactorsGrammarUptoSaid : Prop := fnExactFactorsGrammarUptoRow.holds Try.pinned (OpenSpec.upto fnExactFactorsGrammarSpec)

/-- 'laws.FnExactPlainGrammar', WHERE WHAT IT READS IS OF BULK AT MOST 1048576: true; the input reads as it did. -/
def fnExactPlainGrammarUptoRow : OpenClaim := { program := "ytlgpleeanmeenaa", sum := "42a6faf8ccbe62f864b672c73beaf5a6bbef845a400581eb13107deb29e7b1f5", func := "loop.example/g01133/laws.FnExactPlainGrammar", spec := "fnExactPlainGrammar", inPlace := ["internal/bytealg.IndexByteString", "internal/bytealg.IndexString"], unfollowed := true, recurses := true, named := ["internal/bytealg.MaxLen"], plainKeys := false, apart := false, narrowed := true }
def FnExactPlainGrammarUptoSaid : Prop := fnExactPlainGrammarUptoRow.holds Try.pinned (OpenSpec.upto fnExactPlainGrammarSpec)

/-- 'laws.FnExactValidFactors', WHERE WHAT IT READS IS OF BULK AT MOST 1048576: true; the input reads as it did. -/
def fnExactValidFactorsUptoRow : OpenClaim := { program := "ytlgpleeanmeenaa", sum := "42a6faf8ccbe62f864b672c73beaf5a6bbef845a400581eb13107deb29e7b1f5", func := "loop.example/g01133/laws.FnExactValidFactors", spec := "fnExactValidFactors", plainKeys := false, apart := false, narrowed := true }
def FnExactValidFactorsUptoSaid : Prop := fnExactValidFactorsUptoRow.holds Try.pinned (OpenSpec.upto fnExactValidFactorsSpec)

/-- 'laws.FnExactRunsOf', WHERE WHAT IT READS IS OF BULK AT MOST 1048576: true; the input reads as it did. -/
def fnExactRunsOfUptoRow : OpenClaim := { program := "ytlgpleeanmeenaa", sum := "42a6faf8ccbe62f864b672c73beaf5a6bbef845a400581eb13107deb29e7b1f5", func := "loop.example/g01133/laws.FnExactRunsOf", spec := "fnExactRunsOf", plainKeys := false, apart := false, narrowed := true }
def FnExactRunsOfUptoSaid : Prop := fnExactRunsOfUptoRow.holds Try.pinned (OpenSpec.upto fnExactRunsOfSpec)

/-- 'laws.FnExactWordOfRuns', WHERE WHAT IT READS IS OF BULK AT MOST 1048576: true; the input reads as it did. -/
def fnExactWordOfRunsUptoRow : OpenClaim := { program := "ytlgpleeanmeenaa", sum := "42a6faf8ccbe62f864b672c73beaf5a6bbef845a400581eb13107deb29e7b1f5", func := "loop.example/g01133/laws.FnExactWordOfRuns", spec := "fnExactWordOfRuns", inPlace := ["internal/abi.NoEscape", "internal/bytealg.MakeNoZero"], plainKeys := false, apart := false, narrowed := true }
def FnExactWordOfRunsUptoSaid : Prop := fnExactWordOfRunsUptoRow.holds Try.pinned (OpenSpec.upto fnExactWordOfRunsSpec)

/-- 'laws.FnExactRunsGrammar', WHERE WHAT IT READS IS OF BULK AT MOST 1048576: true; the input reads as it did. -/
def fnExactRunsGrammarUptoRow : OpenClaim := { program := "ytlgpleeanmeenaa", sum := "42a6faf8ccbe62f864b672c73beaf5a6bbef845a400581eb13107deb29e7b1f5", func := "loop.example/g01133/laws.FnExactRunsGrammar", spec := "fnExactRunsGrammar", inPlace := ["internal/bytealg.IndexByteString", "internal/bytealg.IndexString"], unfollowed := true, recurses := true, named := ["internal/bytealg.MaxLen"], plainKeys := false, apart := false, narrowed := true }
def FnExactRunsGrammarUptoSaid : Prop := fnExactRunsGrammarUptoRow.holds Try.pinned (OpenSpec.upto fnExactRunsGrammarSpec)

/-- 'laws.FnExactValidEdit', WHERE WHAT IT READS IS OF BULK AT MOST 1048576: true; the input reads as it did. -/
def fnExactValidEditUptoRow : OpenClaim := { program := "ytlgpleeanmeenaa", sum := "42a6faf8ccbe62f864b672c73beaf5a6bbef845a400581eb13107deb29e7b1f5", func := "loop.example/g01133/laws.FnExactValidEdit", spec := "fnExactValidEdit", unfollowed := true, recurses := true, plainKeys := false, apart := false, narrowed := true }
def FnExactValidEditUptoSaid : Prop := fnExactValidEditUptoRow.holds Try.pinned (OpenSpec.upto fnExactValidEditSpec)

/-- 'laws.FnExactPassEdit', WHERE WHAT IT READS IS OF BULK AT MOST 1048576: true; the input reads as it did. -/
def fnExactPassEditUptoRow : OpenClaim := { program := "ytlgpleeanmeenaa", sum := "42a6faf8ccbe62f864b672c73beaf5a6bbef845a400581eb13107deb29e7b1f5", func := "loop.example/g01133/laws.FnExactPassEdit", spec := "fnExactPassEdit", unfollowed := true, recurses := true, plainKeys := false, apart := false, narrowed := true }
def FnExactPassEditUptoSaid : Prop := fnExactPassEditUptoRow.holds Try.pinned (OpenSpec.upto fnExactPassEditSpec)

/-- 'laws.FnRuns', WHERE WHAT IT READS IS OF BULK AT MOST 1048576: true; the input reads as it did. -/
def fnRunsUptoRow : OpenClaim := { program := "ytlgpleeanmeenaa", sum := "42a6faf8ccbe62f864b672c73beaf5a6bbef845a400581eb13107deb29e7b1f5", func := "loop.example/g01133/laws.FnRuns", spec := "fnRuns", inPlace := ["internal/abi.NoEscape", "internal/bytealg.MakeNoZero"], plainKeys := false, apart := false, narrowed := true }
def FnRunsUptoSaid : Prop := fnRunsUptoRow.holds Try.pinned (OpenSpec.upto fnRunsSpec)

/-- 'laws.FnExactMapLetters', WHERE WHAT IT READS IS OF BULK AT MOST 1048576: true; the input reads as it did. -/
def fnExactMapLettersUptoRow : OpenClaim := { program := "ytlgpleeanmeenaa", sum := "42a6faf8ccbe62f864b672c73beaf5a6bbef845a400581eb13107deb29e7b1f5", func := "loop.example/g01133/laws.FnExactMapLetters", spec := "fnExactMapLetters", inPlace := ["internal/bytealg.IndexByteString", "internal/bytealg.IndexString"], unfollowed := true, recurses := true, named := ["internal/bytealg.MaxLen"], plainKeys := false, apart := false, narrowed := true }
def FnExactMapLettersUptoSaid : Prop := fnExactMapLettersUptoRow.holds Try.pinned (OpenSpec.upto fnExactMapLettersSpec)

/-- 'laws.FnExactLongestRuns', WHERE WHAT IT READS IS OF BULK AT MOST 1048576: true; the input reads as it did. -/
def fnExactLongestRunsUptoRow : OpenClaim := { program := "ytlgpleeanmeenaa", sum := "42a6faf8ccbe62f864b672c73beaf5a6bbef845a400581eb13107deb29e7b1f5", func := "loop.example/g01133/laws.FnExactLongestRuns", spec := "fnExactLongestRuns", inPlace := ["internal/bytealg.IndexByteString", "internal/bytealg.IndexString"], unfollowed := true, recurses := true, named := ["internal/bytealg.MaxLen"], plainKeys := false, apart := false, narrowed := true }
def FnExactLongestRunsUptoSaid : Prop := fnExactLongestRunsUptoRow.holds Try.pinned (OpenSpec.upto fnExactLongestRunsSpec)

end Rows
end Go.Proofs.Ytlgpleeanmeenaa
