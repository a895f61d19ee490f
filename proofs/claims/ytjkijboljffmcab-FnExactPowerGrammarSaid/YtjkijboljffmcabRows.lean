/-
  No cell of these rows narrows 'for every input' (looked for: loops, veiled, ifaces, maps, wideKeys, modest, calm, conditions, laid).
  DERIVED. THE GIVEN ROWS OF THIS SEAT. 11 by the template 'for every input the law returns true; each argument reads behind the call as it read before'; 0 by the template 'total and deterministic' (their statements: YtjkijboljffmcabTotals.lean).
  GIVEN WITH THE SEED: the statements are not yours to turn. If you find one false, say at which input.
  Laid BY PROGRAM, IN A SANDBOX (cutbox-rows.mjs): the forced cells as the released guide's own fill.sh prints them over the translation 73d5779daf7955c8… (all of the seat's roots in one cut). By AI agents, Wed Nov 11 2026. No macro, syntax, notation, axiom, sorry.
-/
import Derived.Test.YtjkijboljffmcabChecked
import GoSem.Claim
import GoSem.ClaimJoined
import GoSem.ClaimMapViews
import Derived.JoinedTies
import Derived.KernelRfl
namespace Go.Proofs.Ytjkijboljffmcab
/- THE CELL 'sum', in the pinned program and in every row, IS THE sha256 OF THE DUMP (.gsa) THAT YtjkijboljffmcabProg.lean LOADS. Nothing in Lean hashes anything: it is a label: what it is worth is what the hold of that sum in a sandbox is worth. -/
noncomputable def Try.pinned : Pinned := { name := "ytjkijboljffmcab", sum := "73d5779daf7955c88c79ede56a75304e1d3272788041d1180d82228294fd791f", checked := Try.checked }
namespace Rows
def none {H : Type} : Left H := { results := [], args := [] }

/-- 'laws.FnExactGrammarText': WHATEVER THE INPUT: true; the input reads as it did. -/
def fnExactGrammarTextSpec : ChangeSpec := { name := "fnExactGrammarText", fn := fun _ => fun
  | [d] => { results := [.lit (.bool true)], args := [d] }
  | _ => none }
def fnExactGrammarTextRow : OpenClaim := { program := "ytjkijboljffmcab", sum := "73d5779daf7955c88c79ede56a75304e1d3272788041d1180d82228294fd791f", func := "loop.example/g01133/laws.FnExactGrammarText", spec := "fnExactGrammarText", inPlace := ["internal/abi.NoEscape"], unfollowed := true, recurses := true, apart := false }
def FnExactGrammarTextSaid : Prop := fnExactGrammarTextRow.holds Try.pinned (OpenSpec.ofChange fnExactGrammarTextSpec)

/-- ITS FALSE NEIGHBOUR: 'it returns false'. Refute it at one input. -/
def fnExactGrammarTextWrong : ChangeSpec := { name := "fnExactGrammarText", fn := fun _ => fun
  | [d] => { results := [.lit (.bool false)], args := [d] }
  | _ => none }
def FnExactGrammarTextWrongFalsely : Prop := fnExactGrammarTextRow.holds Try.pinned (OpenSpec.ofChange fnExactGrammarTextWrong)

/-- 'laws.FnExactLengthOf': WHATEVER THE INPUT: true; the input reads as it did. -/
def fnExactLengthOfSpec : ChangeSpec := { name := "fnExactLengthOf", fn := fun _ => fun
  | [d] => { results := [.lit (.bool true)], args := [d] }
  | _ => none }
def fnExactLengthOfRow : OpenClaim := { program := "ytjkijboljffmcab", sum := "73d5779daf7955c88c79ede56a75304e1d3272788041d1180d82228294fd791f", func := "loop.example/g01133/laws.FnExactLengthOf", spec := "fnExactLengthOf", unfollowed := true, recurses := true, apart := false }
def FnExactLengthOfSaid : Prop := fnExactLengthOfRow.holds Try.pinned (OpenSpec.ofChange fnExactLengthOfSpec)

/-- ITS FALSE NEIGHBOUR: 'it returns false'. Refute it at one input. -/
def fnExactLengthOfWrong : ChangeSpec := { name := "fnExactLengthOf", fn := fun _ => fun
  | [d] => { results := [.lit (.bool false)], args := [d] }
  | _ => none }
def FnExactLengthOfWrongFalsely : Prop := fnExactLengthOfRow.holds Try.pinned (OpenSpec.ofChange fnExactLengthOfWrong)

/-- 'laws.FnExactLengthsOf': WHATEVER THE INPUT: true; the input reads as it did. -/
def fnExactLengthsOfSpec : ChangeSpec := { name := "fnExactLengthsOf", fn := fun _ => fun
  | [d] => { results := [.lit (.bool true)], args := [d] }
  | _ => none }
def fnExactLengthsOfRow : OpenClaim := { program := "ytjkijboljffmcab", sum := "73d5779daf7955c88c79ede56a75304e1d3272788041d1180d82228294fd791f", func := "loop.example/g01133/laws.FnExactLengthsOf", spec := "fnExactLengthsOf", unfollowed := true, recurses := true, apart := false }
def FnExactLengthsOfSaid : Prop := fnExactLengthsOfRow.holds Try.pinned (OpenSpec.ofChange fnExactLengthsOfSpec)

/-- ITS FALSE NEIGHBOUR: 'it returns false'. Refute it at one input. -/
def fnExactLengthsOfWrong : ChangeSpec := { name := "fnExactLengthsOf", fn := fun _ => fun
  | [d] => { results := [.lit (.bool false)], args := [d] }
  | _ => none }
def FnExactLengthsOfWrongFalsely : Prop := fnExactLengthsOfRow.holds Try.pinned (OpenSpec.ofChange fnExactLengthsOfWrong)

/-- 'laws.FnExactDepthOf': WHATEVER THE INPUT: true; the input reads as it did. -/
def fnExactDepthOfSpec : ChangeSpec := { name := "fnExactDepthOf", fn := fun _ => fun
  | [d] => { results := [.lit (.bool true)], args := [d] }
  | _ => none }
def fnExactDepthOfRow : OpenClaim := { program := "ytjkijboljffmcab", sum := "73d5779daf7955c88c79ede56a75304e1d3272788041d1180d82228294fd791f", func := "loop.example/g01133/laws.FnExactDepthOf", spec := "fnExactDepthOf", unfollowed := true, recurses := true, apart := false }
def FnExactDepthOfSaid : Prop := fnExactDepthOfRow.holds Try.pinned (OpenSpec.ofChange fnExactDepthOfSpec)

/-- ITS FALSE NEIGHBOUR: 'it returns false'. Refute it at one input. -/
def fnExactDepthOfWrong : ChangeSpec := { name := "fnExactDepthOf", fn := fun _ => fun
  | [d] => { results := [.lit (.bool false)], args := [d] }
  | _ => none }
def FnExactDepthOfWrongFalsely : Prop := fnExactDepthOfRow.holds Try.pinned (OpenSpec.ofChange fnExactDepthOfWrong)

/-- 'laws.FnExactLetterAt': WHATEVER THE INPUT: true; the input reads as it did. -/
def fnExactLetterAtSpec : ChangeSpec := { name := "fnExactLetterAt", fn := fun _ => fun
  | [d1, d2] => { results := [.lit (.bool true)], args := [d1, d2] }
  | _ => none }
def fnExactLetterAtRow : OpenClaim := { program := "ytjkijboljffmcab", sum := "73d5779daf7955c88c79ede56a75304e1d3272788041d1180d82228294fd791f", func := "loop.example/g01133/laws.FnExactLetterAt", spec := "fnExactLetterAt", unfollowed := true, recurses := true, apart := false }
def FnExactLetterAtSaid : Prop := fnExactLetterAtRow.holds Try.pinned (OpenSpec.ofChange fnExactLetterAtSpec)

/-- ITS FALSE NEIGHBOUR: 'it returns false'. Refute it at one input. -/
def fnExactLetterAtWrong : ChangeSpec := { name := "fnExactLetterAt", fn := fun _ => fun
  | [d1, d2] => { results := [.lit (.bool false)], args := [d1, d2] }
  | _ => none }
def FnExactLetterAtWrongFalsely : Prop := fnExactLetterAtRow.holds Try.pinned (OpenSpec.ofChange fnExactLetterAtWrong)

/-- 'laws.FnExactUnpackPart': WHATEVER THE INPUT: true; the input reads as it did. -/
def fnExactUnpackPartSpec : ChangeSpec := { name := "fnExactUnpackPart", fn := fun _ => fun
  | [d1, d2, d3] => { results := [.lit (.bool true)], args := [d1, d2, d3] }
  | _ => none }
def fnExactUnpackPartRow : OpenClaim := { program := "ytjkijboljffmcab", sum := "73d5779daf7955c88c79ede56a75304e1d3272788041d1180d82228294fd791f", func := "loop.example/g01133/laws.FnExactUnpackPart", spec := "fnExactUnpackPart", inPlace := ["internal/abi.NoEscape"], unfollowed := true, recurses := true, apart := false }
def FnExactUnpackPartSaid : Prop := fnExactUnpackPartRow.holds Try.pinned (OpenSpec.ofChange fnExactUnpackPartSpec)

/-- ITS FALSE NEIGHBOUR: 'it returns false'. Refute it at one input. -/
def fnExactUnpackPartWrong : ChangeSpec := { name := "fnExactUnpackPart", fn := fun _ => fun
  | [d1, d2, d3] => { results := [.lit (.bool false)], args := [d1, d2, d3] }
  | _ => none }
def FnExactUnpackPartWrongFalsely : Prop := fnExactUnpackPartRow.holds Try.pinned (OpenSpec.ofChange fnExactUnpackPartWrong)

/-- 'laws.FnExactUnpackWord': WHATEVER THE INPUT: true; the input reads as it did. -/
def fnExactUnpackWordSpec : ChangeSpec := { name := "fnExactUnpackWord", fn := fun _ => fun
  | [d] => { results := [.lit (.bool true)], args := [d] }
  | _ => none }
def fnExactUnpackWordRow : OpenClaim := { program := "ytjkijboljffmcab", sum := "73d5779daf7955c88c79ede56a75304e1d3272788041d1180d82228294fd791f", func := "loop.example/g01133/laws.FnExactUnpackWord", spec := "fnExactUnpackWord", inPlace := ["internal/abi.NoEscape"], unfollowed := true, recurses := true, apart := false }
def FnExactUnpackWordSaid : Prop := fnExactUnpackWordRow.holds Try.pinned (OpenSpec.ofChange fnExactUnpackWordSpec)

/-- ITS FALSE NEIGHBOUR: 'it returns false'. Refute it at one input. -/
def fnExactUnpackWordWrong : ChangeSpec := { name := "fnExactUnpackWord", fn := fun _ => fun
  | [d] => { results := [.lit (.bool false)], args := [d] }
  | _ => none }
def FnExactUnpackWordWrongFalsely : Prop := fnExactUnpackWordRow.holds Try.pinned (OpenSpec.ofChange fnExactUnpackWordWrong)

/-- 'laws.FnExactPlainGrammar': WHATEVER THE INPUT: true; the input reads as it did. -/
def fnExactPlainGrammarSpec : ChangeSpec := { name := "fnExactPlainGrammar", fn := fun _ => fun
  | [d] => { results := [.lit (.bool true)], args := [d] }
  | _ => none }
def fnExactPlainGrammarRow : OpenClaim := { program := "ytjkijboljffmcab", sum := "73d5779daf7955c88c79ede56a75304e1d3272788041d1180d82228294fd791f", func := "loop.example/g01133/laws.FnExactPlainGrammar", spec := "fnExactPlainGrammar", inPlace := ["internal/bytealg.IndexByteString", "internal/bytealg.IndexString"], unfollowed := true, recurses := true, named := ["internal/bytealg.MaxLen"], apart := false }
def FnExactPlainGrammarSaid : Prop := fnExactPlainGrammarRow.holds Try.pinned (OpenSpec.ofChange fnExactPlainGrammarSpec)

/-- ITS FALSE NEIGHBOUR: 'it returns false'. Refute it at one input. -/
def fnExactPlainGrammarWrong : ChangeSpec := { name := "fnExactPlainGrammar", fn := fun _ => fun
  | [d] => { results := [.lit (.bool false)], args := [d] }
  | _ => none }
def FnExactPlainGrammarWrongFalsely : Prop := fnExactPlainGrammarRow.holds Try.pinned (OpenSpec.ofChange fnExactPlainGrammarWrong)

/-- 'laws.FnExactJoinGrammars': WHATEVER THE INPUT: true; the input reads as it did. -/
def fnExactJoinGrammarsSpec : ChangeSpec := { name := "fnExactJoinGrammars", fn := fun _ => fun
  | [d1, d2] => { results := [.lit (.bool true)], args := [d1, d2] }
  | _ => none }
def fnExactJoinGrammarsRow : OpenClaim := { program := "ytjkijboljffmcab", sum := "73d5779daf7955c88c79ede56a75304e1d3272788041d1180d82228294fd791f", func := "loop.example/g01133/laws.FnExactJoinGrammars", spec := "fnExactJoinGrammars", unfollowed := true, recurses := true, apart := false }
def FnExactJoinGrammarsSaid : Prop := fnExactJoinGrammarsRow.holds Try.pinned (OpenSpec.ofChange fnExactJoinGrammarsSpec)

/-- ITS FALSE NEIGHBOUR: 'it returns false'. Refute it at one input. -/
def fnExactJoinGrammarsWrong : ChangeSpec := { name := "fnExactJoinGrammars", fn := fun _ => fun
  | [d1, d2] => { results := [.lit (.bool false)], args := [d1, d2] }
  | _ => none }
def FnExactJoinGrammarsWrongFalsely : Prop := fnExactJoinGrammarsRow.holds Try.pinned (OpenSpec.ofChange fnExactJoinGrammarsWrong)

/-- 'laws.FnExactPowerGrammar': WHATEVER THE INPUT: true; the input reads as it did. -/
def fnExactPowerGrammarSpec : ChangeSpec := { name := "fnExactPowerGrammar", fn := fun _ => fun
  | [d1, d2] => { results := [.lit (.bool true)], args := [d1, d2] }
  | _ => none }
def fnExactPowerGrammarRow : OpenClaim := { program := "ytjkijboljffmcab", sum := "73d5779daf7955c88c79ede56a75304e1d3272788041d1180d82228294fd791f", func := "loop.example/g01133/laws.FnExactPowerGrammar", spec := "fnExactPowerGrammar", unfollowed := true, recurses := true, apart := false }
def FnExactPowerGrammarSaid : Prop := fnExactPowerGrammarRow.holds Try.pinned (OpenSpec.ofChange fnExactPowerGrammarSpec)

/-- ITS FALSE NEIGHBOUR: 'it returns false'. Refute it at one input. -/
def fnExactPowerGrammarWrong : ChangeSpec := { name := "fnExactPowerGrammar", fn := fun _ => fun
  | [d1, d2] => { results := [.lit (.bool false)], args := [d1, d2] }
  | _ => none }
def FnExactPowerGrammarWrongFalsely : Prop := fnExactPowerGrammarRow.holds Try.pinned (OpenSpec.ofChange fnExactPowerGrammarWrong)

/-- 'laws.FnExactTurnGrammar': WHATEVER THE INPUT: true; the input reads as it did. -/
def fnExactTurnGrammarSpec : ChangeSpec := { name := "fnExactTurnGrammar", fn := fun _ => fun
  | [d] => { results := [.lit (.bool true)], args := [d] }
  | _ => none }
def fnExactTurnGrammarRow : OpenClaim := { program := "ytjkijboljffmcab", sum := "73d5779daf7955c88c79ede56a75304e1d3272788041d1180d82228294fd791f", func := "loop.example/g01133/laws.FnExactTurnGrammar", spec := "fnExactTurnGrammar", unfollowed := true, recurses := true, apart := false }
def FnExactTurnGrammarSaid : Prop := fnExactTurnGrammarRow.holds Try.pinned (OpenSpec.ofChange fnExactTurnGrammarSpec)

/-- ITS FALSE NEIGHBOUR: 'it returns false'. Refute it at one input. -/
def fnExactTurnGrammarWrong : ChangeSpec := { name := "fnExactTurnGrammar", fn := fun _ => fun
  | [d] => { results := [.lit (.bool false)], args := [d] }
  | _ => none }
def FnExactTurnGrammarWrongFalsely : Prop := fnExactTurnGrammarRow.holds Try.pinned (OpenSpec.ofChange fnExactTurnGrammarWrong)

/- THE SECOND FORM. 'bulk': how many values and letters a reading holds, each counted each time it is reached (what is shared counts as often as it is met; a slice's spare places count too). A statement '..UptoSaid' is the law's where the arguments, and the package variables that the reading takes, are together of bulk at most 1048576: NARROWER than '..Said'. Prove '..Said' where nothing that the law and all that it calls make is longer than what came in: it says more and counts as full. Else prove '..UptoSaid'. A law counts once. -/
mutual
def uptoBulk {H : Type} : DataW H → Nat
  | .lit (.string bytes) => bytes.length + 1
  | .lit _ => 1
  | .nil => 1
  | .ptr d => uptoBulk d + 1
  | .slice elems spare => uptoBulkAll elems + uptoBulkAll spare + 1
  | .agg parts => uptoBulkAll parts + 1
  | .iface _ d => uptoBulk d + 1
  | .map entries => uptoBulkEntries entries + 1
  | .held _ => 1
def uptoBulkAll {H : Type} : List (DataW H) → Nat
  | [] => 0
  | d :: r => uptoBulk d + uptoBulkAll r
def uptoBulkEntries {H : Type} : List (Lit × DataW H) → Nat
  | [] => 0
  | x :: r => uptoBulkEntry x + uptoBulkEntries r
def uptoBulkEntry {H : Type} : Lit × DataW H → Nat
  | (.string bytes, d) => bytes.length + uptoBulk d + 1
  | (_, d) => uptoBulk d + 1
 end
def uptoSmall : (H : Type) → List (DataW H) → Bool := fun _ ds => decide (uptoBulkAll ds ≤ 1048576)
def OpenSpec.upto (s : _root_.Go.ChangeSpec) : _root_.Go.OpenSpec := { _root_.Go.OpenSpec.ofChange s with cond := some uptoSmall }

/-- 'laws.FnExactGrammarText', WHERE WHAT IT READS IS OF BULK AT MOST 1048576: true; the input reads as it did. -/
def fnExactGrammarTextUptoRow : OpenClaim := { program := "ytjkijboljffmcab", sum := "73d5779daf7955c88c79ede56a75304e1d3272788041d1180d82228294fd791f", func := "loop.example/g01133/laws.FnExactGrammarText", spec := "fnExactGrammarText", inPlace := ["internal/abi.NoEscape"], unfollowed := true, recurses := true, apart := false, narrowed := true }
def FnExactGrammarTextUptoSaid : Prop := fnExactGrammarTextUptoRow.holds Try.pinned (OpenSpec.upto fnExactGrammarTextSpec)

/-- 'laws.FnExactLengthOf', WHERE WHAT IT READS IS OF BULK AT MOST 1048576: true; the input reads as it did. -/
def fnExactLengthOfUptoRow : OpenClaim := { program := "ytjkijboljffmcab", sum := "73d5779daf7955c88c79ede56a75304e1d3272788041d1180d82228294fd791f", func := "loop.example/g01133/laws.FnExactLengthOf", spec := "fnExactLengthOf", unfollowed := true, recurses := true, apart := false, narrowed := true }
def FnExactLengthOfUptoSaid : Prop := fnExactLengthOfUptoRow.holds Try.pinned (OpenSpec.upto fnExactLengthOfSpec)

/-- 'laws.FnExactLengthsOf', WHERE WHAT IT READS IS OF BULK AT MOST 1048576: true; the input reads as it did. -/
def fnExactLengthsOfUptoRow : OpenClaim := { program := "ytjkijboljffmcab", sum := "73d5779daf7955c88c79ede56a75304e1d3272788041d1180d82228294fd791f", func := "loop.example/g01133/laws.FnExactLengthsOf", spec := "fnExactLengthsOf", unfollowed := true, recurses := true, apart := false, narrowed := true }
def FnExactLengthsOfUptoSaid : Prop := fnExactLengthsOfUptoRow.holds Try.pinned (OpenSpec.upto fnExactLengthsOfSpec)

/-- 'laws.FnExactDepthOf', WHERE WHAT IT READS IS OF BULK AT MOST 1048576: true; the input reads as it did. -/
def fnExactDepthOfUptoRow : OpenClaim := { program := "ytjkijboljffmcab", sum := "73d5779daf7955c88c79ede56a75304e1d3272788041d1180d82228294fd791f", func := "loop.example/g01133/laws.FnExactDepthOf", spec := "fnExactDepthOf", unfollowed := true, recurses := true, apart := false, narrowed := true }
def FnExactDepthOfUptoSaid : Prop := fnExactDepthOfUptoRow.holds Try.pinned (OpenSpec.upto fnExactDepthOfSpec)

/-- 'laws.FnExactLetterAt', WHERE WHAT IT READS IS OF BULK AT MOST 1048576: true; the input reads as it did. -/
def fnExactLetterAtUptoRow : OpenClaim := { program := "ytjkijboljffmcab", sum := "73d5779daf7955c88c79ede56a75304e1d3272788041d1180d82228294fd791f", func := "loop.example/g01133/laws.FnExactLetterAt", spec := "fnExactLetterAt", unfollowed := true, recurses := true, apart := false, narrowed := true }
def FnExactLetterAtUptoSaid : Prop := fnExactLetterAtUptoRow.holds Try.pinned (OpenSpec.upto fnExactLetterAtSpec)

/-- 'laws.FnExactUnpackPart', WHERE WHAT IT READS IS OF BULK AT MOST 1048576: true; the input reads as it did. -/
def fnExactUnpackPartUptoRow : OpenClaim := { program := "ytjkijboljffmcab", sum := "73d5779daf7955c88c79ede56a75304e1d3272788041d1180d82228294fd791f", func := "loop.example/g01133/laws.FnExactUnpackPart", spec := "fnExactUnpackPart", inPlace := ["internal/abi.NoEscape"], unfollowed := true, recurses := true, apart := false, narrowed := true }
def FnExactUnpackPartUptoSaid : Prop := fnExactUnpackPartUptoRow.holds Try.pinned (OpenSpec.upto fnExactUnpackPartSpec)

/-- 'laws.FnExactUnpackWord', WHERE WHAT IT READS IS OF BULK AT MOST 1048576: true; the input reads as it did. -/
def fnExactUnpackWordUptoRow : OpenClaim := { program := "ytjkijboljffmcab", sum := "73d5779daf7955c88c79ede56a75304e1d3272788041d1180d82228294fd791f", func := "loop.example/g01133/laws.FnExactUnpackWord", spec := "fnExactUnpackWord", inPlace := ["internal/abi.NoEscape"], unfollowed := true, recurses := true, apart := false, narrowed := true }
def FnExactUnpackWordUptoSaid : Prop := fnExactUnpackWordUptoRow.holds Try.pinned (OpenSpec.upto fnExactUnpackWordSpec)

/-- 'laws.FnExactPlainGrammar', WHERE WHAT IT READS IS OF BULK AT MOST 1048576: true; the input reads as it did. -/
def fnExactPlainGrammarUptoRow : OpenClaim := { program := "ytjkijboljffmcab", sum := "73d5779daf7955c88c79ede56a75304e1d3272788041d1180d82228294fd791f", func := "loop.example/g01133/laws.FnExactPlainGrammar", spec := "fnExactPlainGrammar", inPlace := ["internal/bytealg.IndexByteString", "internal/bytealg.IndexString"], unfollowed := true, recurses := true, named := ["internal/bytealg.MaxLen"], apart := false, narrowed := true }
def FnExactPlainGrammarUptoSaid : Prop := fnExactPlainGrammarUptoRow.holds Try.pinned (OpenSpec.upto fnExactPlainGrammarSpec)

/-- 'laws.FnExactJoinGrammars', WHERE WHAT IT READS IS OF BULK AT MOST 1048576: true; the input reads as it did. -/
def fnExactJoinGrammarsUptoRow : OpenClaim := { program := "ytjkijboljffmcab", sum := "73d5779daf7955c88c79ede56a75304e1d3272788041d1180d82228294fd791f", func := "loop.example/g01133/laws.FnExactJoinGrammars", spec := "fnExactJoinGrammars", unfollowed := true, recurses := true, apart := false, narrowed := true }
def FnExactJoinGrammarsUptoSaid : Prop := fnExactJoinGrammarsUptoRow.holds Try.pinned (OpenSpec.upto fnExactJoinGrammarsSpec)

/-- 'laws.FnExactPowerGrammar', WHERE WHAT IT READS IS OF BULK AT MOST 1048576: true; the input reads as it did. -/
def fnExactPowerGrammarUptoRow : OpenClaim := { program := "ytjkijboljffmcab", sum := "73d5779daf7955c88c79ede56a75304e1d3272788041d1180d82228294fd791f", func := "loop.example/g01133/laws.FnExactPowerGrammar", spec := "fnExactPowerGrammar", unfollowed := true, recurses := true, apart := false, narrowed := true }
def FnExactPowerGrammarUptoSaid : Prop := fnExactPowerGrammarUptoRow.holds Try.pinned (OpenSpec.upto fnExactPowerGrammarSpec)

/-- 'laws.FnExactTurnGrammar', WHERE WHAT IT READS IS OF BULK AT MOST 1048576: true; the input reads as it did. -/
def fnExactTurnGrammarUptoRow : OpenClaim := { program := "ytjkijboljffmcab", sum := "73d5779daf7955c88c79ede56a75304e1d3272788041d1180d82228294fd791f", func := "loop.example/g01133/laws.FnExactTurnGrammar", spec := "fnExactTurnGrammar", unfollowed := true, recurses := true, apart := false, narrowed := true }
def FnExactTurnGrammarUptoSaid : Prop := fnExactTurnGrammarUptoRow.holds Try.pinned (OpenSpec.upto fnExactTurnGrammarSpec)

end Rows
end Go.Proofs.Ytjkijboljffmcab
