/-
  No cell of these rows narrows 'for every input' (looked for: loops, veiled, ifaces, maps, wideKeys, modest, calm, conditions, laid).
  DERIVED. THE GIVEN ROWS OF THIS SEAT. 12 by the template 'for every input the law returns true; each argument reads behind the call as it read before'; 0 by the template 'total and deterministic' (their statements: YtiibadmijhbioabTotals.lean).
  GIVEN WITH THE SEED: the statements are not yours to turn. If you find one false, say at which input.
  Laid BY PROGRAM, IN A SANDBOX (cutbox-rows.mjs): the forced cells as the released guide's own fill.sh prints them over the translation bef2a6a0d0a18af2… (all of the seat's roots in one cut). By AI agents, Wed Nov 11 2026. No macro, syntax, notation, axiom, sorry.
-/
import Derived.Test.YtiibadmijhbioabChecked
import GoSem.Claim
import GoSem.ClaimJoined
import GoSem.ClaimMapViews
import Derived.JoinedTies
import Derived.KernelRfl
namespace Go.Proofs.Ytiibadmijhbioab
/- THE CELL 'sum', in the pinned program and in every row, IS THE sha256 OF THE DUMP (.gsa) THAT YtiibadmijhbioabProg.lean LOADS. Nothing in Lean hashes anything: it is a label: what it is worth is what the hold of that sum in a sandbox is worth. -/
noncomputable def Try.pinned : Pinned := { name := "ytiibadmijhbioab", sum := "bef2a6a0d0a18af29291d42ea8975e6f0ef3c99c27f8923619772cf5135a86c7", checked := Try.checked }
namespace Rows
def none {H : Type} : Left H := { results := [], args := [] }

/-- 'laws.FnExactCompareWords': WHATEVER THE INPUT: true; the input reads as it did. -/
def fnExactCompareWordsSpec : ChangeSpec := { name := "fnExactCompareWords", fn := fun _ => fun
  | [d1, d2] => { results := [.lit (.bool true)], args := [d1, d2] }
  | _ => none }
def fnExactCompareWordsRow : OpenClaim := { program := "ytiibadmijhbioab", sum := "bef2a6a0d0a18af29291d42ea8975e6f0ef3c99c27f8923619772cf5135a86c7", func := "loop.example/g01133/laws.FnExactCompareWords", spec := "fnExactCompareWords", inPlace := ["internal/bytealg.abigen_runtime_cmpstring"], apart := false }
def FnExactCompareWordsSaid : Prop := fnExactCompareWordsRow.holds Try.pinned (OpenSpec.ofChange fnExactCompareWordsSpec)

/-- ITS FALSE NEIGHBOUR: 'it returns false'. Refute it at one input. -/
def fnExactCompareWordsWrong : ChangeSpec := { name := "fnExactCompareWords", fn := fun _ => fun
  | [d1, d2] => { results := [.lit (.bool false)], args := [d1, d2] }
  | _ => none }
def FnExactCompareWordsWrongFalsely : Prop := fnExactCompareWordsRow.holds Try.pinned (OpenSpec.ofChange fnExactCompareWordsWrong)

/-- 'laws.FnExactBordersOf': WHATEVER THE INPUT: true; the input reads as it did. -/
def fnExactBordersOfSpec : ChangeSpec := { name := "fnExactBordersOf", fn := fun _ => fun
  | [d] => { results := [.lit (.bool true)], args := [d] }
  | _ => none }
def fnExactBordersOfRow : OpenClaim := { program := "ytiibadmijhbioab", sum := "bef2a6a0d0a18af29291d42ea8975e6f0ef3c99c27f8923619772cf5135a86c7", func := "loop.example/g01133/laws.FnExactBordersOf", spec := "fnExactBordersOf", recurses := true, apart := false }
def FnExactBordersOfSaid : Prop := fnExactBordersOfRow.holds Try.pinned (OpenSpec.ofChange fnExactBordersOfSpec)

/-- ITS FALSE NEIGHBOUR: 'it returns false'. Refute it at one input. -/
def fnExactBordersOfWrong : ChangeSpec := { name := "fnExactBordersOf", fn := fun _ => fun
  | [d] => { results := [.lit (.bool false)], args := [d] }
  | _ => none }
def FnExactBordersOfWrongFalsely : Prop := fnExactBordersOfRow.holds Try.pinned (OpenSpec.ofChange fnExactBordersOfWrong)

/-- 'laws.FnExactPeriodsOf': WHATEVER THE INPUT: true; the input reads as it did. -/
def fnExactPeriodsOfSpec : ChangeSpec := { name := "fnExactPeriodsOf", fn := fun _ => fun
  | [d] => { results := [.lit (.bool true)], args := [d] }
  | _ => none }
def fnExactPeriodsOfRow : OpenClaim := { program := "ytiibadmijhbioab", sum := "bef2a6a0d0a18af29291d42ea8975e6f0ef3c99c27f8923619772cf5135a86c7", func := "loop.example/g01133/laws.FnExactPeriodsOf", spec := "fnExactPeriodsOf", unfollowed := true, recurses := true, apart := false }
def FnExactPeriodsOfSaid : Prop := fnExactPeriodsOfRow.holds Try.pinned (OpenSpec.ofChange fnExactPeriodsOfSpec)

/-- ITS FALSE NEIGHBOUR: 'it returns false'. Refute it at one input. -/
def fnExactPeriodsOfWrong : ChangeSpec := { name := "fnExactPeriodsOf", fn := fun _ => fun
  | [d] => { results := [.lit (.bool false)], args := [d] }
  | _ => none }
def FnExactPeriodsOfWrongFalsely : Prop := fnExactPeriodsOfRow.holds Try.pinned (OpenSpec.ofChange fnExactPeriodsOfWrong)

/-- 'laws.FnExactRootOf': WHATEVER THE INPUT: true; the input reads as it did. -/
def fnExactRootOfSpec : ChangeSpec := { name := "fnExactRootOf", fn := fun _ => fun
  | [d] => { results := [.lit (.bool true)], args := [d] }
  | _ => none }
def fnExactRootOfRow : OpenClaim := { program := "ytiibadmijhbioab", sum := "bef2a6a0d0a18af29291d42ea8975e6f0ef3c99c27f8923619772cf5135a86c7", func := "loop.example/g01133/laws.FnExactRootOf", spec := "fnExactRootOf", apart := false }
def FnExactRootOfSaid : Prop := fnExactRootOfRow.holds Try.pinned (OpenSpec.ofChange fnExactRootOfSpec)

/-- ITS FALSE NEIGHBOUR: 'it returns false'. Refute it at one input. -/
def fnExactRootOfWrong : ChangeSpec := { name := "fnExactRootOf", fn := fun _ => fun
  | [d] => { results := [.lit (.bool false)], args := [d] }
  | _ => none }
def FnExactRootOfWrongFalsely : Prop := fnExactRootOfRow.holds Try.pinned (OpenSpec.ofChange fnExactRootOfWrong)

/-- 'laws.FnExactIsPalindrome': WHATEVER THE INPUT: true; the input reads as it did. -/
def fnExactIsPalindromeSpec : ChangeSpec := { name := "fnExactIsPalindrome", fn := fun _ => fun
  | [d] => { results := [.lit (.bool true)], args := [d] }
  | _ => none }
def fnExactIsPalindromeRow : OpenClaim := { program := "ytiibadmijhbioab", sum := "bef2a6a0d0a18af29291d42ea8975e6f0ef3c99c27f8923619772cf5135a86c7", func := "loop.example/g01133/laws.FnExactIsPalindrome", spec := "fnExactIsPalindrome", apart := false }
def FnExactIsPalindromeSaid : Prop := fnExactIsPalindromeRow.holds Try.pinned (OpenSpec.ofChange fnExactIsPalindromeSpec)

/-- ITS FALSE NEIGHBOUR: 'it returns false'. Refute it at one input. -/
def fnExactIsPalindromeWrong : ChangeSpec := { name := "fnExactIsPalindrome", fn := fun _ => fun
  | [d] => { results := [.lit (.bool false)], args := [d] }
  | _ => none }
def FnExactIsPalindromeWrongFalsely : Prop := fnExactIsPalindromeRow.holds Try.pinned (OpenSpec.ofChange fnExactIsPalindromeWrong)

/-- 'laws.FnExactOccurrencesOf': WHATEVER THE INPUT: true; the input reads as it did. -/
def fnExactOccurrencesOfSpec : ChangeSpec := { name := "fnExactOccurrencesOf", fn := fun _ => fun
  | [d1, d2] => { results := [.lit (.bool true)], args := [d1, d2] }
  | _ => none }
def fnExactOccurrencesOfRow : OpenClaim := { program := "ytiibadmijhbioab", sum := "bef2a6a0d0a18af29291d42ea8975e6f0ef3c99c27f8923619772cf5135a86c7", func := "loop.example/g01133/laws.FnExactOccurrencesOf", spec := "fnExactOccurrencesOf", apart := false }
def FnExactOccurrencesOfSaid : Prop := fnExactOccurrencesOfRow.holds Try.pinned (OpenSpec.ofChange fnExactOccurrencesOfSpec)

/-- ITS FALSE NEIGHBOUR: 'it returns false'. Refute it at one input. -/
def fnExactOccurrencesOfWrong : ChangeSpec := { name := "fnExactOccurrencesOf", fn := fun _ => fun
  | [d1, d2] => { results := [.lit (.bool false)], args := [d1, d2] }
  | _ => none }
def FnExactOccurrencesOfWrongFalsely : Prop := fnExactOccurrencesOfRow.holds Try.pinned (OpenSpec.ofChange fnExactOccurrencesOfWrong)

/-- 'laws.FnExactFactorCount': WHATEVER THE INPUT: true; the input reads as it did. -/
def fnExactFactorCountSpec : ChangeSpec := { name := "fnExactFactorCount", fn := fun _ => fun
  | [d1, d2] => { results := [.lit (.bool true)], args := [d1, d2] }
  | _ => none }
def fnExactFactorCountRow : OpenClaim := { program := "ytiibadmijhbioab", sum := "bef2a6a0d0a18af29291d42ea8975e6f0ef3c99c27f8923619772cf5135a86c7", func := "loop.example/g01133/laws.FnExactFactorCount", spec := "fnExactFactorCount", apart := false }
def FnExactFactorCountSaid : Prop := fnExactFactorCountRow.holds Try.pinned (OpenSpec.ofChange fnExactFactorCountSpec)

/-- ITS FALSE NEIGHBOUR: 'it returns false'. Refute it at one input. -/
def fnExactFactorCountWrong : ChangeSpec := { name := "fnExactFactorCount", fn := fun _ => fun
  | [d1, d2] => { results := [.lit (.bool false)], args := [d1, d2] }
  | _ => none }
def FnExactFactorCountWrongFalsely : Prop := fnExactFactorCountRow.holds Try.pinned (OpenSpec.ofChange fnExactFactorCountWrong)

/-- 'laws.FnExactRunsOf': WHATEVER THE INPUT: true; the input reads as it did. -/
def fnExactRunsOfSpec : ChangeSpec := { name := "fnExactRunsOf", fn := fun _ => fun
  | [d] => { results := [.lit (.bool true)], args := [d] }
  | _ => none }
def fnExactRunsOfRow : OpenClaim := { program := "ytiibadmijhbioab", sum := "bef2a6a0d0a18af29291d42ea8975e6f0ef3c99c27f8923619772cf5135a86c7", func := "loop.example/g01133/laws.FnExactRunsOf", spec := "fnExactRunsOf", apart := false }
def FnExactRunsOfSaid : Prop := fnExactRunsOfRow.holds Try.pinned (OpenSpec.ofChange fnExactRunsOfSpec)

/-- ITS FALSE NEIGHBOUR: 'it returns false'. Refute it at one input. -/
def fnExactRunsOfWrong : ChangeSpec := { name := "fnExactRunsOf", fn := fun _ => fun
  | [d] => { results := [.lit (.bool false)], args := [d] }
  | _ => none }
def FnExactRunsOfWrongFalsely : Prop := fnExactRunsOfRow.holds Try.pinned (OpenSpec.ofChange fnExactRunsOfWrong)

/-- 'laws.FnExactWordOfRuns': WHATEVER THE INPUT: true; the input reads as it did. -/
def fnExactWordOfRunsSpec : ChangeSpec := { name := "fnExactWordOfRuns", fn := fun _ => fun
  | [d] => { results := [.lit (.bool true)], args := [d] }
  | _ => none }
def fnExactWordOfRunsRow : OpenClaim := { program := "ytiibadmijhbioab", sum := "bef2a6a0d0a18af29291d42ea8975e6f0ef3c99c27f8923619772cf5135a86c7", func := "loop.example/g01133/laws.FnExactWordOfRuns", spec := "fnExactWordOfRuns", inPlace := ["internal/abi.NoEscape", "internal/bytealg.MakeNoZero"], apart := false }
def FnExactWordOfRunsSaid : Prop := fnExactWordOfRunsRow.holds Try.pinned (OpenSpec.ofChange fnExactWordOfRunsSpec)

/-- ITS FALSE NEIGHBOUR: 'it returns false'. Refute it at one input. -/
def fnExactWordOfRunsWrong : ChangeSpec := { name := "fnExactWordOfRuns", fn := fun _ => fun
  | [d] => { results := [.lit (.bool false)], args := [d] }
  | _ => none }
def FnExactWordOfRunsWrongFalsely : Prop := fnExactWordOfRunsRow.holds Try.pinned (OpenSpec.ofChange fnExactWordOfRunsWrong)

/-- 'laws.FnExactLyndonFactors': WHATEVER THE INPUT: true; the input reads as it did. -/
def fnExactLyndonFactorsSpec : ChangeSpec := { name := "fnExactLyndonFactors", fn := fun _ => fun
  | [d] => { results := [.lit (.bool true)], args := [d] }
  | _ => none }
def fnExactLyndonFactorsRow : OpenClaim := { program := "ytiibadmijhbioab", sum := "bef2a6a0d0a18af29291d42ea8975e6f0ef3c99c27f8923619772cf5135a86c7", func := "loop.example/g01133/laws.FnExactLyndonFactors", spec := "fnExactLyndonFactors", apart := false }
def FnExactLyndonFactorsSaid : Prop := fnExactLyndonFactorsRow.holds Try.pinned (OpenSpec.ofChange fnExactLyndonFactorsSpec)

/-- ITS FALSE NEIGHBOUR: 'it returns false'. Refute it at one input. -/
def fnExactLyndonFactorsWrong : ChangeSpec := { name := "fnExactLyndonFactors", fn := fun _ => fun
  | [d] => { results := [.lit (.bool false)], args := [d] }
  | _ => none }
def FnExactLyndonFactorsWrongFalsely : Prop := fnExactLyndonFactorsRow.holds Try.pinned (OpenSpec.ofChange fnExactLyndonFactorsWrong)

/-- 'laws.FnExactLeastShift': WHATEVER THE INPUT: true; the input reads as it did. -/
def fnExactLeastShiftSpec : ChangeSpec := { name := "fnExactLeastShift", fn := fun _ => fun
  | [d] => { results := [.lit (.bool true)], args := [d] }
  | _ => none }
def fnExactLeastShiftRow : OpenClaim := { program := "ytiibadmijhbioab", sum := "bef2a6a0d0a18af29291d42ea8975e6f0ef3c99c27f8923619772cf5135a86c7", func := "loop.example/g01133/laws.FnExactLeastShift", spec := "fnExactLeastShift", unfollowed := true, recurses := true, apart := false }
def FnExactLeastShiftSaid : Prop := fnExactLeastShiftRow.holds Try.pinned (OpenSpec.ofChange fnExactLeastShiftSpec)

/-- ITS FALSE NEIGHBOUR: 'it returns false'. Refute it at one input. -/
def fnExactLeastShiftWrong : ChangeSpec := { name := "fnExactLeastShift", fn := fun _ => fun
  | [d] => { results := [.lit (.bool false)], args := [d] }
  | _ => none }
def FnExactLeastShiftWrongFalsely : Prop := fnExactLeastShiftRow.holds Try.pinned (OpenSpec.ofChange fnExactLeastShiftWrong)

/-- 'laws.FnExactShiftTo': WHATEVER THE INPUT: true; the input reads as it did. -/
def fnExactShiftToSpec : ChangeSpec := { name := "fnExactShiftTo", fn := fun _ => fun
  | [d1, d2] => { results := [.lit (.bool true)], args := [d1, d2] }
  | _ => none }
def fnExactShiftToRow : OpenClaim := { program := "ytiibadmijhbioab", sum := "bef2a6a0d0a18af29291d42ea8975e6f0ef3c99c27f8923619772cf5135a86c7", func := "loop.example/g01133/laws.FnExactShiftTo", spec := "fnExactShiftTo", unfollowed := true, recurses := true, apart := false }
def FnExactShiftToSaid : Prop := fnExactShiftToRow.holds Try.pinned (OpenSpec.ofChange fnExactShiftToSpec)

/-- ITS FALSE NEIGHBOUR: 'it returns false'. Refute it at one input. -/
def fnExactShiftToWrong : ChangeSpec := { name := "fnExactShiftTo", fn := fun _ => fun
  | [d1, d2] => { results := [.lit (.bool false)], args := [d1, d2] }
  | _ => none }
def FnExactShiftToWrongFalsely : Prop := fnExactShiftToRow.holds Try.pinned (OpenSpec.ofChange fnExactShiftToWrong)

/- THE SECOND FORM. 'bulk': how many values and letters a reading holds, each counted each time it is reached (what is shared counts as often as it is met; a slice's spare places count too). A statement '..UptoSaid' is the law's where the arguments, and the package variables that the reading takes, are together of bulk at most 1048576: NARROWER than '..Said'. Prove '..Said' where nothing that the law and all that it calls make is longer than what came in: it says more and counts as full. Else prove '..UptoSaid'. A law counts once. -/
mutual
def uptoBulk {H : Type} : DataW H → Nat
  | .lit (.string bytes) => bytes.length + 1
  | .lit _ => 1
  | .nil => 1
  | .ptr d => uptoBulk d + 1
  | .slice elems spare => uptoBulkAll elems + uptoBulkAll spare + 1
  | .agg parts => uptoBulkAll parts + 1
  | .iface _ d => uptoBulk d + 1
  | .map entries => uptoBulkEntries entries + 1
  | .held _ => 1
def uptoBulkAll {H : Type} : List (DataW H) → Nat
  | [] => 0
  | d :: r => uptoBulk d + uptoBulkAll r
def uptoBulkEntries {H : Type} : List (Lit × DataW H) → Nat
  | [] => 0
  | x :: r => uptoBulkEntry x + uptoBulkEntries r
def uptoBulkEntry {H : Type} : Lit × DataW H → Nat
  | (.string bytes, d) => bytes.length + uptoBulk d + 1
  | (_, d) => uptoBulk d + 1
 end
def uptoSmall : (H : Type) → List (DataW H) → Bool := fun _ ds => decide (uptoBulkAll ds ≤ 1048576)
def OpenSpec.upto (s : _root_.Go.ChangeSpec) : _root_.Go.OpenSpec := { _root_.Go.OpenSpec.ofChange s with cond := some uptoSmall }

/-- 'laws.FnExactCompareWords', WHERE WHAT IT READS IS OF BULK AT MOST 1048576: true; the input reads as it did. -/
def fnExactCompareWordsUptoRow : OpenClaim := { program := "ytiibadmijhbioab", sum := "bef2a6a0d0a18af29291d42ea8975e6f0ef3c99c27f8923619772cf5135a86c7", func := "loop.example/g01133/laws.FnExactCompareWords", spec := "fnExactCompareWords", inPlace := ["internal/bytealg.abigen_runtime_cmpstring"], apart := false, narrowed := true }
def FnExactCompareWordsUptoSaid : Prop := fnExactCompareWordsUptoRow.holds Try.pinned (OpenSpec.upto fnExactCompareWordsSpec)

/-- 'laws.FnExactBordersOf', WHERE WHAT IT READS IS OF BULK AT MOST 1048576: true; the input reads as it did. -/
def fnExactBordersOfUptoRow : OpenClaim := { program := "ytiibadmijhbioab", sum := "bef2a6a0d0a18af29291d42ea8975e6f0ef3c99c27f8923619772cf5135a86c7", func := "loop.example/g01133/laws.FnExactBordersOf", spec := "fnExactBordersOf", recurses := true, apart := false, narrowed := true }
def FnExactBordersOfUptoSaid : Prop := fnExactBordersOfUptoRow.holds Try.pinned (OpenSpec.upto fnExactBordersOfSpec)

/-- 'laws.FnExactPeriodsOf', WHERE WHAT IT READS IS OF BULK AT MOST 1048576: true; the input reads as it did. -/
def fnExactPeriodsOfUptoRow : OpenClaim := { program := "ytiibadmijhbioab", sum := "bef2a6a0d0a18af29291d42ea8975e6f0ef3c99c27f8923619772cf5135a86c7", func := "loop.example/g01133/laws.FnExactPeriodsOf", spec := "fnExactPeriodsOf", unfollowed := true, recurses := true, apart := false, narrowed := true }
def FnExactPeriodsOfUptoSaid : Prop := fnExactPeriodsOfUptoRow.holds Try.pinned (OpenSpec.upto fnExactPeriodsOfSpec)

/-- 'laws.FnExactRootOf', WHERE WHAT IT READS IS OF BULK AT MOST 1048576: true; the input reads as it did. -/
def fnExactRootOfUptoRow : OpenClaim := { program := "ytiibadmijhbioab", sum := "bef2a6a0d0a18af29291d42ea8975e6f0ef3c99c27f8923619772cf5135a86c7", func := "loop.example/g01133/laws.FnExactRootOf", spec := "fnExactRootOf", apart := false, narrowed := true }
def FnExactRootOfUptoSaid : Prop := fnExactRootOfUptoRow.holds Try.pinned (OpenSpec.upto fnExactRootOfSpec)

/-- 'laws.FnExactIsPalindrome', WHERE WHAT IT READS IS OF BULK AT MOST 1048576: true; the input reads as it did. -/
def fnExactIsPalindromeUptoRow : OpenClaim := { program := "ytiibadmijhbioab", sum := "bef2a6a0d0a18af29291d42ea8975e6f0ef3c99c27f8923619772cf5135a86c7", func := "loop.example/g01133/laws.FnExactIsPalindrome", spec := "fnExactIsPalindrome", apart := false, narrowed := true }
def FnExactIsPalindromeUptoSaid : Prop := fnExactIsPalindromeUptoRow.holds Try.pinned (OpenSpec.upto fnExactIsPalindromeSpec)

/-- 'laws.FnExactOccurrencesOf', WHERE WHAT IT READS IS OF BULK AT MOST 1048576: true; the input reads as it did. -/
def fnExactOccurrencesOfUptoRow : OpenClaim := { program := "ytiibadmijhbioab", sum := "bef2a6a0d0a18af29291d42ea8975e6f0ef3c99c27f8923619772cf5135a86c7", func := "loop.example/g01133/laws.FnExactOccurrencesOf", spec := "fnExactOccurrencesOf", apart := false, narrowed := true }
def FnExactOccurrencesOfUptoSaid : Prop := fnExactOccurrencesOfUptoRow.holds Try.pinned (OpenSpec.upto fnExactOccurrencesOfSpec)

/-- 'laws.FnExactFactorCount', WHERE WHAT IT READS IS OF BULK AT MOST 1048576: true; the input reads as it did. -/
def fnExactFactorCountUptoRow : OpenClaim := { program := "ytiibadmijhbioab", sum := "bef2a6a0d0a18af29291d42ea8975e6f0ef3c99c27f8923619772cf5135a86c7", func := "loop.example/g01133/laws.FnExactFactorCount", spec := "fnExactFactorCount", apart := false, narrowed := true }
def FnExactFactorCountUptoSaid : Prop := fnExactFactorCountUptoRow.holds Try.pinned (OpenSpec.upto fnExactFactorCountSpec)

/-- 'laws.FnExactRunsOf', WHERE WHAT IT READS IS OF BULK AT MOST 1048576: true; the input reads as it did. -/
def fnExactRunsOfUptoRow : OpenClaim := { program := "ytiibadmijhbioab", sum := "bef2a6a0d0a18af29291d42ea8975e6f0ef3c99c27f8923619772cf5135a86c7", func := "loop.example/g01133/laws.FnExactRunsOf", spec := "fnExactRunsOf", apart := false, narrowed := true }
def FnExactRunsOfUptoSaid : Prop := fnExactRunsOfUptoRow.holds Try.pinned (OpenSpec.upto fnExactRunsOfSpec)

/-- 'laws.FnExactWordOfRuns', WHERE WHAT IT READS IS OF BULK AT MOST 1048576: true; the input reads as it did. -/
def fnExactWordOfRunsUptoRow : OpenClaim := { program := "ytiibadmijhbioab", sum := "bef2a6a0d0a18af29291d42ea8975e6f0ef3c99c27f8923619772cf5135a86c7", func := "loop.example/g01133/laws.FnExactWordOfRuns", spec := "fnExactWordOfRuns", inPlace := ["internal/abi.NoEscape", "internal/bytealg.MakeNoZero"], apart := false, narrowed := true }
def FnExactWordOfRunsUptoSaid : Prop := fnExactWordOfRunsUptoRow.holds Try.pinned (OpenSpec.upto fnExactWordOfRunsSpec)

/-- 'laws.FnExactLyndonFactors', WHERE WHAT IT READS IS OF BULK AT MOST 1048576: true; the input reads as it did. -/
def fnExactLyndonFactorsUptoRow : OpenClaim := { program := "ytiibadmijhbioab", sum := "bef2a6a0d0a18af29291d42ea8975e6f0ef3c99c27f8923619772cf5135a86c7", func := "loop.example/g01133/laws.FnExactLyndonFactors", spec := "fnExactLyndonFactors", apart := false, narrowed := true }
def FnExactLyndonFactorsUptoSaid : Prop := fnExactLyndonFactorsUptoRow.holds Try.pinned (OpenSpec.upto fnExactLyndonFactorsSpec)

/-- 'laws.FnExactLeastShift', WHERE WHAT IT READS IS OF BULK AT MOST 1048576: true; the input reads as it did. -/
def fnExactLeastShiftUptoRow : OpenClaim := { program := "ytiibadmijhbioab", sum := "bef2a6a0d0a18af29291d42ea8975e6f0ef3c99c27f8923619772cf5135a86c7", func := "loop.example/g01133/laws.FnExactLeastShift", spec := "fnExactLeastShift", unfollowed := true, recurses := true, apart := false, narrowed := true }
def FnExactLeastShiftUptoSaid : Prop := fnExactLeastShiftUptoRow.holds Try.pinned (OpenSpec.upto fnExactLeastShiftSpec)

/-- 'laws.FnExactShiftTo', WHERE WHAT IT READS IS OF BULK AT MOST 1048576: true; the input reads as it did. -/
def fnExactShiftToUptoRow : OpenClaim := { program := "ytiibadmijhbioab", sum := "bef2a6a0d0a18af29291d42ea8975e6f0ef3c99c27f8923619772cf5135a86c7", func := "loop.example/g01133/laws.FnExactShiftTo", spec := "fnExactShiftTo", unfollowed := true, recurses := true, apart := false, narrowed := true }
def FnExactShiftToUptoSaid : Prop := fnExactShiftToUptoRow.holds Try.pinned (OpenSpec.upto fnExactShiftToSpec)

end Rows
end Go.Proofs.Ytiibadmijhbioab
