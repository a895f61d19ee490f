/-
  No cell of these rows narrows 'for every input' (looked for: loops, veiled, ifaces, maps, wideKeys, modest, calm, conditions, laid).
  DERIVED. THE GIVEN ROWS OF THIS SEAT. 12 by the template 'for every input the law returns true; each argument reads behind the call as it read before'; 0 by the template 'total and deterministic' (their statements: YtonbjgecdhmjbaaTotals.lean).
  GIVEN WITH THE SEED: the statements are not yours to turn. If you find one false, say at which input.
  Laid BY PROGRAM, IN A SANDBOX (cutbox-rows.mjs): the forced cells as the released guide's own fill.sh prints them over the translation 9027e7fc45ab1158… (all of the seat's roots in one cut). By AI agents, Wed Nov 11 2026. No macro, syntax, notation, axiom, sorry.
-/
import Derived.Test.YtonbjgecdhmjbaaChecked
import GoSem.Claim
import GoSem.ClaimJoined
import GoSem.ClaimMapViews
import Derived.JoinedTies
import Derived.KernelRfl
namespace Go.Proofs.Ytonbjgecdhmjbaa
/- THE CELL 'sum', in the pinned program and in every row, IS THE sha256 OF THE DUMP (.gsa) THAT YtonbjgecdhmjbaaProg.lean LOADS. Nothing in Lean hashes anything: it is a label: what it is worth is what the hold of that sum in a sandbox is worth. -/
noncomputable def Try.pinned : Pinned := { name := "ytonbjgecdhmjbaa", sum := "9027e7fc45ab1158d38dca56071cfec30000826d36a1b58f2dccc6ef51f48e30", checked := Try.checked }
namespace Rows
def none {H : Type} : Left H := { results := [], args := [] }

/-- 'laws.FnExactRunsOf': WHATEVER THE INPUT: true; the input reads as it did. -/
def fnExactRunsOfSpec : ChangeSpec := { name := "fnExactRunsOf", fn := fun _ => fun
  | [d] => { results := [.lit (.bool true)], args := [d] }
  | _ => none }
def fnExactRunsOfRow : OpenClaim := { program := "ytonbjgecdhmjbaa", sum := "9027e7fc45ab1158d38dca56071cfec30000826d36a1b58f2dccc6ef51f48e30", func := "loop.example/g01133/laws.FnExactRunsOf", spec := "fnExactRunsOf", plainKeys := false, apart := false }
def FnExactRunsOfSaid : Prop := fnExactRunsOfRow.holds Try.pinned (OpenSpec.ofChange fnExactRunsOfSpec)

/-- ITS FALSE NEIGHBOUR: 'it returns false'. Refute it at one input. -/
def fnExactRunsOfWrong : ChangeSpec := { name := "fnExactRunsOf", fn := fun _ => fun
  | [d] => { results := [.lit (.bool false)], args := [d] }
  | _ => none }
def FnExactRunsOfWrongFalsely : Prop := fnExactRunsOfRow.holds Try.pinned (OpenSpec.ofChange fnExactRunsOfWrong)

/-- 'laws.FnExactWordOfRuns': WHATEVER THE INPUT: true; the input reads as it did. -/
def fnExactWordOfRunsSpec : ChangeSpec := { name := "fnExactWordOfRuns", fn := fun _ => fun
  | [d] => { results := [.lit (.bool true)], args := [d] }
  | _ => none }
def fnExactWordOfRunsRow : OpenClaim := { program := "ytonbjgecdhmjbaa", sum := "9027e7fc45ab1158d38dca56071cfec30000826d36a1b58f2dccc6ef51f48e30", func := "loop.example/g01133/laws.FnExactWordOfRuns", spec := "fnExactWordOfRuns", inPlace := ["internal/abi.NoEscape", "internal/bytealg.MakeNoZero"], plainKeys := false, apart := false }
def FnExactWordOfRunsSaid : Prop := fnExactWordOfRunsRow.holds Try.pinned (OpenSpec.ofChange fnExactWordOfRunsSpec)

/-- ITS FALSE NEIGHBOUR: 'it returns false'. Refute it at one input. -/
def fnExactWordOfRunsWrong : ChangeSpec := { name := "fnExactWordOfRuns", fn := fun _ => fun
  | [d] => { results := [.lit (.bool false)], args := [d] }
  | _ => none }
def FnExactWordOfRunsWrongFalsely : Prop := fnExactWordOfRunsRow.holds Try.pinned (OpenSpec.ofChange fnExactWordOfRunsWrong)

/-- 'laws.FnExactPartGrammar': WHATEVER THE INPUT: true; the input reads as it did. -/
def fnExactPartGrammarSpec : ChangeSpec := { name := "fnExactPartGrammar", fn := fun _ => fun
  | [d1, d2, d3] => { results := [.lit (.bool true)], args := [d1, d2, d3] }
  | _ => none }
def fnExactPartGrammarRow : OpenClaim := { program := "ytonbjgecdhmjbaa", sum := "9027e7fc45ab1158d38dca56071cfec30000826d36a1b58f2dccc6ef51f48e30", func := "loop.example/g01133/laws.FnExactPartGrammar", spec := "fnExactPartGrammar", unfollowed := true, recurses := true, plainKeys := false, apart := false }
def FnExactPartGrammarSaid : Prop := fnExactPartGrammarRow.holds Try.pinned (OpenSpec.ofChange fnExactPartGrammarSpec)

/-- ITS FALSE NEIGHBOUR: 'it returns false'. Refute it at one input. -/
def fnExactPartGrammarWrong : ChangeSpec := { name := "fnExactPartGrammar", fn := fun _ => fun
  | [d1, d2, d3] => { results := [.lit (.bool false)], args := [d1, d2, d3] }
  | _ => none }
def FnExactPartGrammarWrongFalsely : Prop := fnExactPartGrammarRow.holds Try.pinned (OpenSpec.ofChange fnExactPartGrammarWrong)

/-- 'laws.FnExactMapLetters': WHATEVER THE INPUT: true; the input reads as it did. -/
def fnExactMapLettersSpec : ChangeSpec := { name := "fnExactMapLetters", fn := fun _ => fun
  | [d1, d2] => { results := [.lit (.bool true)], args := [d1, d2] }
  | _ => none }
def fnExactMapLettersRow : OpenClaim := { program := "ytonbjgecdhmjbaa", sum := "9027e7fc45ab1158d38dca56071cfec30000826d36a1b58f2dccc6ef51f48e30", func := "loop.example/g01133/laws.FnExactMapLetters", spec := "fnExactMapLetters", inPlace := ["internal/bytealg.IndexByteString", "internal/bytealg.IndexString"], unfollowed := true, recurses := true, named := ["internal/bytealg.MaxLen"], plainKeys := false, apart := false }
def FnExactMapLettersSaid : Prop := fnExactMapLettersRow.holds Try.pinned (OpenSpec.ofChange fnExactMapLettersSpec)

/-- ITS FALSE NEIGHBOUR: 'it returns false'. Refute it at one input. -/
def fnExactMapLettersWrong : ChangeSpec := { name := "fnExactMapLetters", fn := fun _ => fun
  | [d1, d2] => { results := [.lit (.bool false)], args := [d1, d2] }
  | _ => none }
def FnExactMapLettersWrongFalsely : Prop := fnExactMapLettersRow.holds Try.pinned (OpenSpec.ofChange fnExactMapLettersWrong)

/-- 'laws.FnExactTrimGrammar': WHATEVER THE INPUT: true; the input reads as it did. -/
def fnExactTrimGrammarSpec : ChangeSpec := { name := "fnExactTrimGrammar", fn := fun _ => fun
  | [d] => { results := [.lit (.bool true)], args := [d] }
  | _ => none }
def fnExactTrimGrammarRow : OpenClaim := { program := "ytonbjgecdhmjbaa", sum := "9027e7fc45ab1158d38dca56071cfec30000826d36a1b58f2dccc6ef51f48e30", func := "loop.example/g01133/laws.FnExactTrimGrammar", spec := "fnExactTrimGrammar", unfollowed := true, recurses := true, plainKeys := false, apart := false }
def FnExactTrimGrammarSaid : Prop := fnExactTrimGrammarRow.holds Try.pinned (OpenSpec.ofChange fnExactTrimGrammarSpec)

/-- ITS FALSE NEIGHBOUR: 'it returns false'. Refute it at one input. -/
def fnExactTrimGrammarWrong : ChangeSpec := { name := "fnExactTrimGrammar", fn := fun _ => fun
  | [d] => { results := [.lit (.bool false)], args := [d] }
  | _ => none }
def FnExactTrimGrammarWrongFalsely : Prop := fnExactTrimGrammarRow.holds Try.pinned (OpenSpec.ofChange fnExactTrimGrammarWrong)

/-- 'laws.FnExactValidAuto': WHATEVER THE INPUT: true; the input reads as it did. -/
def fnExactValidAutoSpec : ChangeSpec := { name := "fnExactValidAuto", fn := fun _ => fun
  | [d] => { results := [.lit (.bool true)], args := [d] }
  | _ => none }
def fnExactValidAutoRow : OpenClaim := { program := "ytonbjgecdhmjbaa", sum := "9027e7fc45ab1158d38dca56071cfec30000826d36a1b58f2dccc6ef51f48e30", func := "loop.example/g01133/laws.FnExactValidAuto", spec := "fnExactValidAuto", unfollowed := true, recurses := true, plainKeys := false, apart := false }
def FnExactValidAutoSaid : Prop := fnExactValidAutoRow.holds Try.pinned (OpenSpec.ofChange fnExactValidAutoSpec)

/-- ITS FALSE NEIGHBOUR: 'it returns false'. Refute it at one input. -/
def fnExactValidAutoWrong : ChangeSpec := { name := "fnExactValidAuto", fn := fun _ => fun
  | [d] => { results := [.lit (.bool false)], args := [d] }
  | _ => none }
def FnExactValidAutoWrongFalsely : Prop := fnExactValidAutoRow.holds Try.pinned (OpenSpec.ofChange fnExactValidAutoWrong)

/-- 'laws.FnExactSameAuto': WHATEVER THE INPUT: true; the input reads as it did. -/
def fnExactSameAutoSpec : ChangeSpec := { name := "fnExactSameAuto", fn := fun _ => fun
  | [d1, d2] => { results := [.lit (.bool true)], args := [d1, d2] }
  | _ => none }
def fnExactSameAutoRow : OpenClaim := { program := "ytonbjgecdhmjbaa", sum := "9027e7fc45ab1158d38dca56071cfec30000826d36a1b58f2dccc6ef51f48e30", func := "loop.example/g01133/laws.FnExactSameAuto", spec := "fnExactSameAuto", unfollowed := true, recurses := true, plainKeys := false, apart := false }
def FnExactSameAutoSaid : Prop := fnExactSameAutoRow.holds Try.pinned (OpenSpec.ofChange fnExactSameAutoSpec)

/-- ITS FALSE NEIGHBOUR: 'it returns false'. Refute it at one input. -/
def fnExactSameAutoWrong : ChangeSpec := { name := "fnExactSameAuto", fn := fun _ => fun
  | [d1, d2] => { results := [.lit (.bool false)], args := [d1, d2] }
  | _ => none }
def FnExactSameAutoWrongFalsely : Prop := fnExactSameAutoRow.holds Try.pinned (OpenSpec.ofChange fnExactSameAutoWrong)

/-- 'laws.FnExactRunWord': WHATEVER THE INPUT: true; the input reads as it did. -/
def fnExactRunWordSpec : ChangeSpec := { name := "fnExactRunWord", fn := fun _ => fun
  | [d1, d2, d3] => { results := [.lit (.bool true)], args := [d1, d2, d3] }
  | _ => none }
def fnExactRunWordRow : OpenClaim := { program := "ytonbjgecdhmjbaa", sum := "9027e7fc45ab1158d38dca56071cfec30000826d36a1b58f2dccc6ef51f48e30", func := "loop.example/g01133/laws.FnExactRunWord", spec := "fnExactRunWord", inPlace := ["internal/bytealg.IndexByteString", "internal/bytealg.IndexString"], unfollowed := true, recurses := true, named := ["internal/bytealg.MaxLen"], plainKeys := false, apart := false }
def FnExactRunWordSaid : Prop := fnExactRunWordRow.holds Try.pinned (OpenSpec.ofChange fnExactRunWordSpec)

/-- ITS FALSE NEIGHBOUR: 'it returns false'. Refute it at one input. -/
def fnExactRunWordWrong : ChangeSpec := { name := "fnExactRunWord", fn := fun _ => fun
  | [d1, d2, d3] => { results := [.lit (.bool false)], args := [d1, d2, d3] }
  | _ => none }
def FnExactRunWordWrongFalsely : Prop := fnExactRunWordRow.holds Try.pinned (OpenSpec.ofChange fnExactRunWordWrong)

/-- 'laws.FnExactNotAuto': WHATEVER THE INPUT: true; the input reads as it did. -/
def fnExactNotAutoSpec : ChangeSpec := { name := "fnExactNotAuto", fn := fun _ => fun
  | [d] => { results := [.lit (.bool true)], args := [d] }
  | _ => none }
def fnExactNotAutoRow : OpenClaim := { program := "ytonbjgecdhmjbaa", sum := "9027e7fc45ab1158d38dca56071cfec30000826d36a1b58f2dccc6ef51f48e30", func := "loop.example/g01133/laws.FnExactNotAuto", spec := "fnExactNotAuto", unfollowed := true, recurses := true, plainKeys := false, apart := false }
def FnExactNotAutoSaid : Prop := fnExactNotAutoRow.holds Try.pinned (OpenSpec.ofChange fnExactNotAutoSpec)

/-- ITS FALSE NEIGHBOUR: 'it returns false'. Refute it at one input. -/
def fnExactNotAutoWrong : ChangeSpec := { name := "fnExactNotAuto", fn := fun _ => fun
  | [d] => { results := [.lit (.bool false)], args := [d] }
  | _ => none }
def FnExactNotAutoWrongFalsely : Prop := fnExactNotAutoRow.holds Try.pinned (OpenSpec.ofChange fnExactNotAutoWrong)

/-- 'laws.FnExactBothAuto': WHATEVER THE INPUT: true; the input reads as it did. -/
def fnExactBothAutoSpec : ChangeSpec := { name := "fnExactBothAuto", fn := fun _ => fun
  | [d1, d2] => { results := [.lit (.bool true)], args := [d1, d2] }
  | _ => none }
def fnExactBothAutoRow : OpenClaim := { program := "ytonbjgecdhmjbaa", sum := "9027e7fc45ab1158d38dca56071cfec30000826d36a1b58f2dccc6ef51f48e30", func := "loop.example/g01133/laws.FnExactBothAuto", spec := "fnExactBothAuto", unfollowed := true, recurses := true, plainKeys := false, apart := false }
def FnExactBothAutoSaid : Prop := fnExactBothAutoRow.holds Try.pinned (OpenSpec.ofChange fnExactBothAutoSpec)

/-- ITS FALSE NEIGHBOUR: 'it returns false'. Refute it at one input. -/
def fnExactBothAutoWrong : ChangeSpec := { name := "fnExactBothAuto", fn := fun _ => fun
  | [d1, d2] => { results := [.lit (.bool false)], args := [d1, d2] }
  | _ => none }
def FnExactBothAutoWrongFalsely : Prop := fnExactBothAutoRow.holds Try.pinned (OpenSpec.ofChange fnExactBothAutoWrong)

/-- 'laws.FnExactPatternAuto': WHATEVER THE INPUT: true; the input reads as it did. -/
def fnExactPatternAutoSpec : ChangeSpec := { name := "fnExactPatternAuto", fn := fun _ => fun
  | [d] => { results := [.lit (.bool true)], args := [d] }
  | _ => none }
def fnExactPatternAutoRow : OpenClaim := { program := "ytonbjgecdhmjbaa", sum := "9027e7fc45ab1158d38dca56071cfec30000826d36a1b58f2dccc6ef51f48e30", func := "loop.example/g01133/laws.FnExactPatternAuto", spec := "fnExactPatternAuto", plainKeys := false, apart := false }
def FnExactPatternAutoSaid : Prop := fnExactPatternAutoRow.holds Try.pinned (OpenSpec.ofChange fnExactPatternAutoSpec)

/-- ITS FALSE NEIGHBOUR: 'it returns false'. Refute it at one input. -/
def fnExactPatternAutoWrong : ChangeSpec := { name := "fnExactPatternAuto", fn := fun _ => fun
  | [d] => { results := [.lit (.bool false)], args := [d] }
  | _ => none }
def FnExactPatternAutoWrongFalsely : Prop := fnExactPatternAutoRow.holds Try.pinned (OpenSpec.ofChange fnExactPatternAutoWrong)

/-- 'laws.FnExactValidCoder': WHATEVER THE INPUT: true; the input reads as it did. -/
def fnExactValidCoderSpec : ChangeSpec := { name := "fnExactValidCoder", fn := fun _ => fun
  | [d] => { results := [.lit (.bool true)], args := [d] }
  | _ => none }
def fnExactValidCoderRow : OpenClaim := { program := "ytonbjgecdhmjbaa", sum := "9027e7fc45ab1158d38dca56071cfec30000826d36a1b58f2dccc6ef51f48e30", func := "loop.example/g01133/laws.FnExactValidCoder", spec := "fnExactValidCoder", unfollowed := true, recurses := true, plainKeys := false, apart := false }
def FnExactValidCoderSaid : Prop := fnExactValidCoderRow.holds Try.pinned (OpenSpec.ofChange fnExactValidCoderSpec)

/-- ITS FALSE NEIGHBOUR: 'it returns false'. Refute it at one input. -/
def fnExactValidCoderWrong : ChangeSpec := { name := "fnExactValidCoder", fn := fun _ => fun
  | [d] => { results := [.lit (.bool false)], args := [d] }
  | _ => none }
def FnExactValidCoderWrongFalsely : Prop := fnExactValidCoderRow.holds Try.pinned (OpenSpec.ofChange fnExactValidCoderWrong)

/- THE SECOND FORM. 'bulk': how many values and letters a reading holds, each counted each time it is reached (what is shared counts as often as it is met; a slice's spare places count too). A statement '..UptoSaid' is the law's where the arguments, and the package variables that the reading takes, are together of bulk at most 1048576: NARROWER than '..Said'. Prove '..Said' where nothing that the law and all that it calls make is longer than what came in: it says more and counts as full. Else prove '..UptoSaid'. A law counts once. -/
mutual
def uptoBulk {H : Type} : DataW H → Nat
  | .lit (.string bytes) => bytes.length + 1
  | .lit _ => 1
  | .nil => 1
  | .ptr d => uptoBulk d + 1
  | .slice elems spare => uptoBulkAll elems + uptoBulkAll spare + 1
  | .agg parts => uptoBulkAll parts + 1
  | .iface _ d => uptoBulk d + 1
  | .map entries => uptoBulkEntries entries + 1
  | .held _ => 1
def uptoBulkAll {H : Type} : List (DataW H) → Nat
  | [] => 0
  | d :: r => uptoBulk d + uptoBulkAll r
def uptoBulkEntries {H : Type} : List (Lit × DataW H) → Nat
  | [] => 0
  | x :: r => uptoBulkEntry x + uptoBulkEntries r
def uptoBulkEntry {H : Type} : Lit × DataW H → Nat
  | (.string bytes, d) => bytes.length + uptoBulk d + 1
  | (_, d) => uptoBulk d + 1
 end
def uptoSmall : (H : Type) → List (DataW H) → Bool := fun _ ds => decide (uptoBulkAll ds ≤ 1048576)
def OpenSpec.upto (s : _root_.Go.ChangeSpec) : _root_.Go.OpenSpec := { _root_.Go.OpenSpec.ofChange s with cond := some uptoSmall }

/-- 'laws.FnExactRunsOf', WHERE WHAT IT READS IS OF BULK AT MOST 1048576: true; the input reads as it did. -/
def fnExactRunsOfUptoRow : OpenClaim := { program := "ytonbjgecdhmjbaa", sum := "9027e7fc45ab1158d38dca56071cfec30000826d36a1b58f2dccc6ef51f48e30", func := "loop.example/g01133/laws.FnExactRunsOf", spec := "fnExactRunsOf", plainKeys := false, apart := false, narrowed := true }
def FnExactRunsOfUptoSaid : Prop := fnExactRunsOfUptoRow.holds Try.pinned (OpenSpec.upto fnExactRunsOfSpec)

/-- 'laws.FnExactWordOfRuns', WHERE WHAT IT READS IS OF BULK AT MOST 1048576: true; the input reads as it did. -/
def fnExactWordOfRunsUptoRow : OpenClaim := { program := "ytonbjgecdhmjbaa", sum := "9027e7fc45ab1158d38dca56071cfec30000826d36a1b58f2dccc6ef51f48e30", func := "loop.example/g01133/laws.FnExactWordOfRuns", spec := "fnExactWordOfRuns", inPlace := ["internal/abi.NoEscape", "internal/bytealg.MakeNoZero"], plainKeys := false, apart := false, narrowed := true }
def FnExactWordOfRunsUptoSaid : Prop := fnExactWordOfRunsUptoRow.holds Try.pinned (OpenSpec.upto fnExactWordOfRunsSpec)

/-- 'laws.FnExactPartGrammar', WHERE WHAT IT READS IS OF BULK AT MOST 1048576: true; the input reads as it did. -/
def fnExactPartGrammarUptoRow : OpenClaim := { program := "ytonbjgecdhmjbaa", sum := "9027e7fc45ab1158d38dca56071cfec30000826d36a1b58f2dccc6ef51f48e30", func := "loop.example/g01133/laws.FnExactPartGrammar", spec := "fnExactPartGrammar", unfollowed := true, recurses := true, plainKeys := false, apart := false, narrowed := true }
def FnExactPartGrammarUptoSaid : Prop := fnExactPartGrammarUptoRow.holds Try.pinned (OpenSpec.upto fnExactPartGrammarSpec)

/-- 'laws.FnExactMapLetters', WHERE WHAT IT READS IS OF BULK AT MOST 1048576: true; the input reads as it did. -/
def fnExactMapLettersUptoRow : OpenClaim := { program := "ytonbjgecdhmjbaa", sum := "9027e7fc45ab1158d38dca56071cfec30000826d36a1b58f2dccc6ef51f48e30", func := "loop.example/g01133/laws.FnExactMapLetters", spec := "fnExactMapLetters", inPlace := ["internal/bytealg.IndexByteString", "internal/bytealg.IndexString"], unfollowed := true, recurses := true, named := ["internal/bytealg.MaxLen"], plainKeys := false, apart := false, narrowed := true }
def FnExactMapLettersUptoSaid : Prop := fnExactMapLettersUptoRow.holds Try.pinned (OpenSpec.upto fnExactMapLettersSpec)

/-- 'laws.FnExactTrimGrammar', WHERE WHAT IT READS IS OF BULK AT MOST 1048576: true; the input reads as it did. -/
def fnExactTrimGrammarUptoRow : OpenClaim := { program := "ytonbjgecdhmjbaa", sum := "9027e7fc45ab1158d38dca56071cfec30000826d36a1b58f2dccc6ef51f48e30", func := "loop.example/g01133/laws.FnExactTrimGrammar", spec := "fnExactTrimGrammar", unfollowed := true, recurses := true, plainKeys := false, apart := false, narrowed := true }
def FnExactTrimGrammarUptoSaid : Prop := fnExactTrimGrammarUptoRow.holds Try.pinned (OpenSpec.upto fnExactTrimGrammarSpec)

/-- 'laws.FnExactValidAuto', WHERE WHAT IT READS IS OF BULK AT MOST 1048576: true; the input reads as it did. -/
def fnExactValidAutoUptoRow : OpenClaim := { program := "ytonbjgecdhmjbaa", sum := "9027e7fc45ab1158d38dca56071cfec30000826d36a1b58f2dccc6ef51f48e30", func := "loop.example/g01133/laws.FnExactValidAuto", spec := "fnExactValidAuto", unfollowed := true, recurses := true, plainKeys := false, apart := false, narrowed := true }
def FnExactValidAutoUptoSaid : Prop := fnExactValidAutoUptoRow.holds Try.pinned (OpenSpec.upto fnExactValidAutoSpec)

/-- 'laws.FnExactSameAuto', WHERE WHAT IT READS IS OF BULK AT MOST 1048576: true; the input reads as it did. -/
def fnExactSameAutoUptoRow : OpenClaim := { program := "ytonbjgecdhmjbaa", sum := "9027e7fc45ab1158d38dca56071cfec30000826d36a1b58f2dccc6ef51f48e30", func := "loop.example/g01133/laws.FnExactSameAuto", spec := "fnExactSameAuto", unfollowed := true, recurses := true, plainKeys := false, apart := false, narrowed := true }
def FnExactSameAutoUptoSaid : Prop := fnExactSameAutoUptoRow.holds Try.pinned (OpenSpec.upto fnExactSameAutoSpec)

/-- 'laws.FnExactRunWord', WHERE WHAT IT READS IS OF BULK AT MOST 1048576: true; the input reads as it did. -/
def fnExactRunWordUptoRow : OpenClaim := { program := "ytonbjgecdhmjbaa", sum := "9027e7fc45ab1158d38dca56071cfec30000826d36a1b58f2dccc6ef51f48e30", func := "loop.example/g01133/laws.FnExactRunWord", spec := "fnExactRunWord", inPlace := ["internal/bytealg.IndexByteString", "internal/bytealg.IndexString"], unfollowed := true, recurses := true, named := ["internal/bytealg.MaxLen"], plainKeys := false, apart := false, narrowed := true }
def FnExactRunWordUptoSaid : Prop := fnExactRunWordUptoRow.holds Try.pinned (OpenSpec.upto fnExactRunWordSpec)

/-- 'laws.FnExactNotAuto', WHERE WHAT IT READS IS OF BULK AT MOST 1048576: true; the input reads as it did. -/
def fnExactNotAutoUptoRow : OpenClaim := { program := "ytonbjgecdhmjbaa", sum := "9027e7fc45ab1158d38dca56071cfec30000826d36a1b58f2dccc6ef51f48e30", func := "loop.example/g01133/laws.FnExactNotAuto", spec := "fnExactNotAuto", unfollowed := true, recurses := true, plainKeys := false, apart := false, narrowed := true }
def FnExactNotAutoUptoSaid : Prop := fnExactNotAutoUptoRow.holds Try.pinned (OpenSpec.upto fnExactNotAutoSpec)

/-- 'laws.FnExactBothAuto', WHERE WHAT IT READS IS OF BULK AT MOST 1048576: true; the input reads as it did. -/
def fnExactBothAutoUptoRow : OpenClaim := { program := "ytonbjgecdhmjbaa", sum := "9027e7fc45ab1158d38dca56071cfec30000826d36a1b58f2dccc6ef51f48e30", func := "loop.example/g01133/laws.FnExactBothAuto", spec := "fnExactBothAuto", unfollowed := true, recurses := true, plainKeys := false, apart := false, narrowed := true }
def FnExactBothAutoUptoSaid : Prop := fnExactBothAutoUptoRow.holds Try.pinned (OpenSpec.upto fnExactBothAutoSpec)

/-- 'laws.FnExactPatternAuto', WHERE WHAT IT READS IS OF BULK AT MOST 1048576: true; the input reads as it did. -/
def fnExactPatternAutoUptoRow : OpenClaim := { program := "ytonbjgecdhmjbaa", sum := "9027e7fc45ab1158d38dca56071cfec30000826d36a1b58f2dccc6ef51f48e30", func := "loop.example/g01133/laws.FnExactPatternAuto", spec := "fnExactPatternAuto", plainKeys := false, apart := false, narrowed := true }
def FnExactPatternAutoUptoSaid : Prop := fnExactPatternAutoUptoRow.holds Try.pinned (OpenSpec.upto fnExactPatternAutoSpec)

/-- 'laws.FnExactValidCoder', WHERE WHAT IT READS IS OF BULK AT MOST 1048576: true; the input reads as it did. -/
def fnExactValidCoderUptoRow : OpenClaim := { program := "ytonbjgecdhmjbaa", sum := "9027e7fc45ab1158d38dca56071cfec30000826d36a1b58f2dccc6ef51f48e30", func := "loop.example/g01133/laws.FnExactValidCoder", spec := "fnExactValidCoder", unfollowed := true, recurses := true, plainKeys := false, apart := false, narrowed := true }
def FnExactValidCoderUptoSaid : Prop := fnExactValidCoderUptoRow.holds Try.pinned (OpenSpec.upto fnExactValidCoderSpec)

end Rows
end Go.Proofs.Ytonbjgecdhmjbaa
