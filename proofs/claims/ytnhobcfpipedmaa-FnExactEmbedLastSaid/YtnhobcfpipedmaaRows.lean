/-
  No cell of these rows narrows 'for every input' (looked for: loops, veiled, ifaces, maps, wideKeys, modest, calm, conditions, laid).
  DERIVED. THE GIVEN ROWS OF THIS SEAT. 7 by the template 'for every input the law returns true; each argument reads behind the call as it read before'; 0 by the template 'total and deterministic' (their statements: YtnhobcfpipedmaaTotals.lean).
  GIVEN WITH THE SEED: the statements are not yours to turn. If you find one false, say at which input.
  Laid BY PROGRAM, IN A SANDBOX (cutbox-rows.mjs): the forced cells as the released guide's own fill.sh prints them over the translation 936780bc13ad65cc… (all of the seat's roots in one cut). By AI agents, Wed Nov 11 2026. No macro, syntax, notation, axiom, sorry.
-/
import Derived.Test.YtnhobcfpipedmaaChecked
import GoSem.Claim
import GoSem.ClaimJoined
import GoSem.ClaimMapViews
import Derived.JoinedTies
import Derived.KernelRfl
namespace Go.Proofs.Ytnhobcfpipedmaa
/- THE CELL 'sum', in the pinned program and in every row, IS THE sha256 OF THE DUMP (.gsa) THAT YtnhobcfpipedmaaProg.lean LOADS. Nothing in Lean hashes anything: it is a label: what it is worth is what the hold of that sum in a sandbox is worth. -/
noncomputable def Try.pinned : Pinned := { name := "ytnhobcfpipedmaa", sum := "936780bc13ad65cc80e9350e7ab2ceb66bfdce1339c120d3e7d53f29ddfeb1aa", checked := Try.checked }
namespace Rows
def none {H : Type} : Left H := { results := [], args := [] }

/-- 'laws.FnExactEmbedLast': WHATEVER THE INPUT: true; the input reads as it did. -/
def fnExactEmbedLastSpec : ChangeSpec := { name := "fnExactEmbedLast", fn := fun _ => fun
  | [d1, d2] => { results := [.lit (.bool true)], args := [d1, d2] }
  | _ => none }
def fnExactEmbedLastRow : OpenClaim := { program := "ytnhobcfpipedmaa", sum := "936780bc13ad65cc80e9350e7ab2ceb66bfdce1339c120d3e7d53f29ddfeb1aa", func := "loop.example/g01133/laws.FnExactEmbedLast", spec := "fnExactEmbedLast", inPlace := ["internal/bytealg.IndexByteString", "internal/bytealg.IndexString"], unfollowed := true, recurses := true, named := ["internal/bytealg.MaxLen"], plainKeys := false, apart := false }
def FnExactEmbedLastSaid : Prop := fnExactEmbedLastRow.holds Try.pinned (OpenSpec.ofChange fnExactEmbedLastSpec)

/-- ITS FALSE NEIGHBOUR: 'it returns false'. Refute it at one input. -/
def fnExactEmbedLastWrong : ChangeSpec := { name := "fnExactEmbedLast", fn := fun _ => fun
  | [d1, d2] => { results := [.lit (.bool false)], args := [d1, d2] }
  | _ => none }
def FnExactEmbedLastWrongFalsely : Prop := fnExactEmbedLastRow.holds Try.pinned (OpenSpec.ofChange fnExactEmbedLastWrong)

/-- 'laws.FnExactPartGrammar': WHATEVER THE INPUT: true; the input reads as it did. -/
def fnExactPartGrammarSpec : ChangeSpec := { name := "fnExactPartGrammar", fn := fun _ => fun
  | [d1, d2, d3] => { results := [.lit (.bool true)], args := [d1, d2, d3] }
  | _ => none }
def fnExactPartGrammarRow : OpenClaim := { program := "ytnhobcfpipedmaa", sum := "936780bc13ad65cc80e9350e7ab2ceb66bfdce1339c120d3e7d53f29ddfeb1aa", func := "loop.example/g01133/laws.FnExactPartGrammar", spec := "fnExactPartGrammar", unfollowed := true, recurses := true, plainKeys := false, apart := false }
def FnExactPartGrammarSaid : Prop := fnExactPartGrammarRow.holds Try.pinned (OpenSpec.ofChange fnExactPartGrammarSpec)

/-- ITS FALSE NEIGHBOUR: 'it returns false'. Refute it at one input. -/
def fnExactPartGrammarWrong : ChangeSpec := { name := "fnExactPartGrammar", fn := fun _ => fun
  | [d1, d2, d3] => { results := [.lit (.bool false)], args := [d1, d2, d3] }
  | _ => none }
def FnExactPartGrammarWrongFalsely : Prop := fnExactPartGrammarRow.holds Try.pinned (OpenSpec.ofChange fnExactPartGrammarWrong)

/-- 'laws.FnExactFactorsGrammar': WHATEVER THE INPUT: true; the input reads as it did. -/
def fnExactFactorsGrammarSpec : ChangeSpec := { name := "fnExactFactorsGrammar", fn := fun _ => fun
  | [d] => { results := [.lit (.bool true)], args := [d] }
  | _ => none }
def fnExactFactorsGrammarRow : OpenClaim := { program := "ytnhobcfpipedmaa", sum := "936780bc13ad65cc80e9350e7ab2ceb66bfdce1339c120d3e7d53f29ddfeb1aa", func := "loop.example/g01133/laws.FnExactFactorsGrammar", spec := "fnExactFactorsGrammar", inPlace := ["internal/bytealg.IndexByteString", "internal/bytealg.IndexString"], unfollowed := true, recurses := true, named := ["internal/bytealg.MaxLen"], plainKeys := false, apart := false }
def FnExactFactorsGrammarSaid : Prop := fnExactFactorsGrammarRow.holds Try.pinned (OpenSpec.ofChange fnExactFactorsGrammarSpec)

/-- ITS FALSE NEIGHBOUR: 'it returns false'. Refute it at one input. -/
def fnExactFactorsGrammarWrong : ChangeSpec := { name := "fnExactFactorsGrammar", fn := fun _ => fun
  | [d] => { results := [.lit (.bool false)], args := [d] }
  | _ => none }
def FnExactFactorsGrammarWrongFalsely : Prop := fnExactFactorsGrammarRow.holds Try.pinned (OpenSpec.ofChange fnExactFactorsGrammarWrong)

/-- 'laws.FnExactRunsGrammar': WHATEVER THE INPUT: true; the input reads as it did. -/
def fnExactRunsGrammarSpec : ChangeSpec := { name := "fnExactRunsGrammar", fn := fun _ => fun
  | [d] => { results := [.lit (.bool true)], args := [d] }
  | _ => none }
def fnExactRunsGrammarRow : OpenClaim := { program := "ytnhobcfpipedmaa", sum := "936780bc13ad65cc80e9350e7ab2ceb66bfdce1339c120d3e7d53f29ddfeb1aa", func := "loop.example/g01133/laws.FnExactRunsGrammar", spec := "fnExactRunsGrammar", inPlace := ["internal/bytealg.IndexByteString", "internal/bytealg.IndexString"], unfollowed := true, recurses := true, named := ["internal/bytealg.MaxLen"], plainKeys := false, apart := false }
def FnExactRunsGrammarSaid : Prop := fnExactRunsGrammarRow.holds Try.pinned (OpenSpec.ofChange fnExactRunsGrammarSpec)

/-- ITS FALSE NEIGHBOUR: 'it returns false'. Refute it at one input. -/
def fnExactRunsGrammarWrong : ChangeSpec := { name := "fnExactRunsGrammar", fn := fun _ => fun
  | [d] => { results := [.lit (.bool false)], args := [d] }
  | _ => none }
def FnExactRunsGrammarWrongFalsely : Prop := fnExactRunsGrammarRow.holds Try.pinned (OpenSpec.ofChange fnExactRunsGrammarWrong)

/-- 'laws.FnExactHalvingGrammar': WHATEVER THE INPUT: true; the input reads as it did. -/
def fnExactHalvingGrammarSpec : ChangeSpec := { name := "fnExactHalvingGrammar", fn := fun _ => fun
  | [d] => { results := [.lit (.bool true)], args := [d] }
  | _ => none }
def fnExactHalvingGrammarRow : OpenClaim := { program := "ytnhobcfpipedmaa", sum := "936780bc13ad65cc80e9350e7ab2ceb66bfdce1339c120d3e7d53f29ddfeb1aa", func := "loop.example/g01133/laws.FnExactHalvingGrammar", spec := "fnExactHalvingGrammar", unfollowed := true, recurses := true, plainKeys := false, apart := false }
def FnExactHalvingGrammarSaid : Prop := fnExactHalvingGrammarRow.holds Try.pinned (OpenSpec.ofChange fnExactHalvingGrammarSpec)

/-- ITS FALSE NEIGHBOUR: 'it returns false'. Refute it at one input. -/
def fnExactHalvingGrammarWrong : ChangeSpec := { name := "fnExactHalvingGrammar", fn := fun _ => fun
  | [d] => { results := [.lit (.bool false)], args := [d] }
  | _ => none }
def FnExactHalvingGrammarWrongFalsely : Prop := fnExactHalvingGrammarRow.holds Try.pinned (OpenSpec.ofChange fnExactHalvingGrammarWrong)

/-- 'laws.FnExactWordOfRuns': WHATEVER THE INPUT: true; the input reads as it did. -/
def fnExactWordOfRunsSpec : ChangeSpec := { name := "fnExactWordOfRuns", fn := fun _ => fun
  | [d] => { results := [.lit (.bool true)], args := [d] }
  | _ => none }
def fnExactWordOfRunsRow : OpenClaim := { program := "ytnhobcfpipedmaa", sum := "936780bc13ad65cc80e9350e7ab2ceb66bfdce1339c120d3e7d53f29ddfeb1aa", func := "loop.example/g01133/laws.FnExactWordOfRuns", spec := "fnExactWordOfRuns", inPlace := ["internal/abi.NoEscape", "internal/bytealg.MakeNoZero"], plainKeys := false, apart := false }
def FnExactWordOfRunsSaid : Prop := fnExactWordOfRunsRow.holds Try.pinned (OpenSpec.ofChange fnExactWordOfRunsSpec)

/-- ITS FALSE NEIGHBOUR: 'it returns false'. Refute it at one input. -/
def fnExactWordOfRunsWrong : ChangeSpec := { name := "fnExactWordOfRuns", fn := fun _ => fun
  | [d] => { results := [.lit (.bool false)], args := [d] }
  | _ => none }
def FnExactWordOfRunsWrongFalsely : Prop := fnExactWordOfRunsRow.holds Try.pinned (OpenSpec.ofChange fnExactWordOfRunsWrong)

/-- 'laws.FnExactMapLetters': WHATEVER THE INPUT: true; the input reads as it did. -/
def fnExactMapLettersSpec : ChangeSpec := { name := "fnExactMapLetters", fn := fun _ => fun
  | [d1, d2] => { results := [.lit (.bool true)], args := [d1, d2] }
  | _ => none }
def fnExactMapLettersRow : OpenClaim := { program := "ytnhobcfpipedmaa", sum := "936780bc13ad65cc80e9350e7ab2ceb66bfdce1339c120d3e7d53f29ddfeb1aa", func := "loop.example/g01133/laws.FnExactMapLetters", spec := "fnExactMapLetters", inPlace := ["internal/bytealg.IndexByteString", "internal/bytealg.IndexString"], unfollowed := true, recurses := true, named := ["internal/bytealg.MaxLen"], plainKeys := false, apart := false }
def FnExactMapLettersSaid : Prop := fnExactMapLettersRow.holds Try.pinned (OpenSpec.ofChange fnExactMapLettersSpec)

/-- ITS FALSE NEIGHBOUR: 'it returns false'. Refute it at one input. -/
def fnExactMapLettersWrong : ChangeSpec := { name := "fnExactMapLetters", fn := fun _ => fun
  | [d1, d2] => { results := [.lit (.bool false)], args := [d1, d2] }
  | _ => none }
def FnExactMapLettersWrongFalsely : Prop := fnExactMapLettersRow.holds Try.pinned (OpenSpec.ofChange fnExactMapLettersWrong)

/- THE SECOND FORM. 'bulk': how many values and letters a reading holds, each counted each time it is reached (what is shared counts as often as it is met; a slice's spare places count too). A statement '..UptoSaid' is the law's where the arguments, and the package variables that the reading takes, are together of bulk at most 1048576: NARROWER than '..Said'. Prove '..Said' where nothing that the law and all that it calls make is longer than what came in: it says more and counts as full. Else prove '..UptoSaid'. A law counts once. -/
mutual
def uptoBulk {H : Type} : DataW H → Nat
  | .lit (.string bytes) => bytes.length + 1
  | .lit _ => 1
  | .nil => 1
  | .ptr d => uptoBulk d + 1
  | .slice elems spare => uptoBulkAll elems + uptoBulkAll spare + 1
  | .agg parts => uptoBulkAll parts + 1
  | .iface _ d => uptoBulk d + 1
  | .map entries => uptoBulkEntries entries + 1
  | .held _ => 1
def uptoBulkAll {H : Type} : List (DataW H) → Nat
  | [] => 0
  | d :: r => uptoBulk d + uptoBulkAll r
def uptoBulkEntries {H : Type} : List (Lit × DataW H) → Nat
  | [] => 0
  | x :: r => uptoBulkEntry x + uptoBulkEntries r
def uptoBulkEntry {H : Type} : Lit × DataW H → Nat
  | (.string bytes, d) => bytes.length + uptoBulk d + 1
  | (_, d) => uptoBulk d + 1
 end
def uptoSmall : (H : Type) → List (DataW H) → Bool := fun _ ds => decide (uptoBulkAll ds ≤ 1048576)
def OpenSpec.upto (s : _root_.Go.ChangeSpec) : _root_.Go.OpenSpec := { _root_.Go.OpenSpec.ofChange s with cond := some uptoSmall }

/-- 'laws.FnExactEmbedLast', WHERE WHAT IT READS IS OF BULK AT MOST 1048576: true; the input reads as it did. -/
def fnExactEmbedLastUptoRow : OpenClaim := { program := "ytnhobcfpipedmaa", sum := "936780bc13ad65cc80e9350e7ab2ceb66bfdce1339c120d3e7d53f29ddfeb1aa", func := "loop.example/g01133/laws.FnExactEmbedLast", spec := "fnExactEmbedLast", inPlace := ["internal/bytealg.IndexByteString", "internal/bytealg.IndexString"], unfollowed := true, recurses := true, named := ["internal/bytealg.MaxLen"], plainKeys := false, apart := false, narrowed := true }
def FnExactEmbedLastUptoSaid : Prop := fnExactEmbedLastUptoRow.holds Try.pinned (OpenSpec.upto fnExactEmbedLastSpec)

/-- 'laws.FnExactPartGrammar', WHERE WHAT IT READS IS OF BULK AT MOST 1048576: true; the input reads as it did. -/
def fnExactPartGrammarUptoRow : OpenClaim := { program := "ytnhobcfpipedmaa", sum := "936780bc13ad65cc80e9350e7ab2ceb66bfdce1339c120d3e7d53f29ddfeb1aa", func := "loop.example/g01133/laws.FnExactPartGrammar", spec := "fnExactPartGrammar", unfollowed := true, recurses := true, plainKeys := false, apart := false, narrowed := true }
def FnExactPartGrammarUptoSaid : Prop := fnExactPartGrammarUptoRow.holds Try.pinned (OpenSpec.upto fnExactPartGrammarSpec)

/-- 'laws.FnExactFactorsGrammar', WHERE WHAT IT READS IS OF BULK AT MOST 1048576: true; the input reads as it did. -/
def fnExactFactorsGrammarUptoRow : OpenClaim := { program := "ytnhobcfpipedmaa", sum := "936780bc13ad65cc80e9350e7ab2ceb66bfdce1339c120d3e7d53f29ddfeb1aa", func := "loop.example/g01133/laws.FnExactFactorsGrammar", spec := "fnExactFactorsGrammar", inPlace := ["internal/bytealg.IndexByteString", "internal/bytealg.IndexString"], unfollowed := true, recurses := true, named := ["internal/bytealg.MaxLen"], plainKeys := false, apart := false, narrowed := true }
def FnExactFactorsGrammarUptoSaid : Prop := fnExactFactorsGrammarUptoRow.holds Try.pinned (OpenSpec.upto fnExactFactorsGrammarSpec)

/-- 'laws.FnExactRunsGrammar', WHERE WHAT IT READS IS OF BULK AT MOST 1048576: true; the input reads as it did. -/
def fnExactRunsGrammarUptoRow : OpenClaim := { program := "ytnhobcfpipedmaa", sum := "936780bc13ad65cc80e9350e7ab2ceb66bfdce1339c120d3e7d53f29ddfeb1aa", func := "loop.example/g01133/laws.FnExactRunsGrammar", spec := "fnExactRunsGrammar", inPlace := ["internal/bytealg.IndexByteString", "internal/bytealg.IndexString"], unfollowed := true, recurses := true, named := ["internal/bytealg.MaxLen"], plainKeys := false, apart := false, narrowed := true }
def FnExactRunsGrammarUptoSaid : Prop := fnExactRunsGrammarUptoRow.holds Try.pinned (OpenSpec.upto fnExactRunsGrammarSpec)

/-- 'laws.FnExactHalvingGrammar', WHERE WHAT IT READS IS OF BULK AT MOST 1048576: true; the input reads as it did. -/
def fnExactHalvingGrammarUptoRow : OpenClaim := { program := "ytnhobcfpipedmaa", sum := "936780bc13ad65cc80e9350e7ab2ceb66bfdce1339c120d3e7d53f29ddfeb1aa", func := "loop.example/g01133/laws.FnExactHalvingGrammar", spec := "fnExactHalvingGrammar", unfollowed := true, recurses := true, plainKeys := false, apart := false, narrowed := true }
def FnExactHalvingGrammarUptoSaid : Prop := fnExactHalvingGrammarUptoRow.holds Try.pinned (OpenSpec.upto fnExactHalvingGrammarSpec)

/-- 'laws.FnExactWordOfRuns', WHERE WHAT IT READS IS OF BULK AT MOST 1048576: true; the input reads as it did. -/
def fnExactWordOfRunsUptoRow : OpenClaim := { program := "ytnhobcfpipedmaa", sum := "936780bc13ad65cc80e9350e7ab2ceb66bfdce1339c120d3e7d53f29ddfeb1aa", func := "loop.example/g01133/laws.FnExactWordOfRuns", spec := "fnExactWordOfRuns", inPlace := ["internal/abi.NoEscape", "internal/bytealg.MakeNoZero"], plainKeys := false, apart := false, narrowed := true }
def FnExactWordOfRunsUptoSaid : Prop := fnExactWordOfRunsUptoRow.holds Try.pinned (OpenSpec.upto fnExactWordOfRunsSpec)

/-- 'laws.FnExactMapLetters', WHERE WHAT IT READS IS OF BULK AT MOST 1048576: true; the input reads as it did. -/
def fnExactMapLettersUptoRow : OpenClaim := { program := "ytnhobcfpipedmaa", sum := "936780bc13ad65cc80e9350e7ab2ceb66bfdce1339c120d3e7d53f29ddfeb1aa", func := "loop.example/g01133/laws.FnExactMapLetters", spec := "fnExactMapLetters", inPlace := ["internal/bytealg.IndexByteString", "internal/bytealg.IndexString"], unfollowed := true, recurses := true, named := ["internal/bytealg.MaxLen"], plainKeys := false, apart := false, narrowed := true }
def FnExactMapLettersUptoSaid : Prop := fnExactMapLettersUptoRow.holds Try.pinned (OpenSpec.upto fnExactMapLettersSpec)

end Rows
end Go.Proofs.Ytnhobcfpipedmaa
