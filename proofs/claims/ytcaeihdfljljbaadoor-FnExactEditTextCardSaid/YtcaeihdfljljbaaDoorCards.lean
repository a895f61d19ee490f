/-
  DERIVED. GIVEN WITH THE SEED: THE CARDS: each row of YtcaeihdfljljbaaDoorRows.lean that lists a variable, with what it lists TIED to the program's text (the seventh form; the later family's looks); each row that meets fmt, with fmt's text TOLD by the authors' own Lean function (tested against real Go, not proved from fmt's source: count such statements apart). THE CARD IS WHAT COUNTS. Prove the row's statement (the work); the ties are given (YtcaeihdfljljbaaDoorTie.lean); close each card by the builder's one call (the guide's Derived/Test/ToyasCard.lean, 'card_holds'). Laid BY PROGRAM, IN A SANDBOX (cutbox-door.mjs). By AI agents, Wed Nov 11 2026. No macro, syntax, notation, axiom, sorry.
-/
import Derived.Test.YtcaeihdfljljbaaDoorRows
import GoSem.ClaimSeven
namespace Go.Proofs.YtcaeihdfljljbaaDoor
namespace Rows

/-- THE TIED CARD OF 'laws.FnExactDeedText'. -/
def fnExactDeedTextCard : Claim7 := { stood := { row := fnExactDeedTextRow, standIns := [], harness := (true, "d8e3320bb2e814b8f0d77508041e6a5535ad19f1b609d9c5860049517b51128c"), looks := true }, kinds := [], alts := [], laidByText := true, laidKinds := [.data, .data, .data], laidTests := true, laidLooks := .later }
def FnExactDeedTextCardSaid : Prop := Claim7.holds Tryd.pinned (.plain (OpenSpec.ofChange fnExactDeedTextSpec)) fnExactDeedTextCard

/-- THE TIED CARD OF 'laws.FnExactFactorsText'. -/
def fnExactFactorsTextCard : Claim7 := { stood := { row := fnExactFactorsTextRow, standIns := [], harness := (true, "d8e3320bb2e814b8f0d77508041e6a5535ad19f1b609d9c5860049517b51128c"), looks := true }, kinds := [], alts := [], laidByText := true, laidKinds := [.data, .data, .data], laidTests := true, laidLooks := .later }
def FnExactFactorsTextCardSaid : Prop := Claim7.holds Tryd.pinned (.plain (OpenSpec.ofChange fnExactFactorsTextSpec)) fnExactFactorsTextCard

/-- THE TIED CARD OF 'laws.FnExactEditText'. -/
def fnExactEditTextCard : Claim7 := { stood := { row := fnExactEditTextRow, standIns := [], harness := (true, "d8e3320bb2e814b8f0d77508041e6a5535ad19f1b609d9c5860049517b51128c"), looks := true }, kinds := [], alts := [], laidByText := true, laidKinds := [.data, .data, .data], laidTests := true, laidLooks := .later }
def FnExactEditTextCardSaid : Prop := Claim7.holds Tryd.pinned (.plain (OpenSpec.ofChange fnExactEditTextSpec)) fnExactEditTextCard

/-- THE TIED CARD OF 'laws.FnExactAutoText'. -/
def fnExactAutoTextCard : Claim7 := { stood := { row := fnExactAutoTextRow, standIns := [], harness := (true, "d8e3320bb2e814b8f0d77508041e6a5535ad19f1b609d9c5860049517b51128c"), looks := true }, kinds := [], alts := [], laidByText := true, laidKinds := [.data, .data, .data], laidTests := true, laidLooks := .later }
def FnExactAutoTextCardSaid : Prop := Claim7.holds Tryd.pinned (.plain (OpenSpec.ofChange fnExactAutoTextSpec)) fnExactAutoTextCard

/-- THE SECOND FORM's CARD OF 'laws.FnExactDeedText'. -/
def fnExactDeedTextUptoCard : Claim7 := { stood := { row := fnExactDeedTextUptoRow, standIns := [], harness := (true, "d8e3320bb2e814b8f0d77508041e6a5535ad19f1b609d9c5860049517b51128c"), looks := true }, kinds := [], alts := [], laidByText := true, laidKinds := [.data, .data, .data], laidTests := true, laidLooks := .later }
def FnExactDeedTextUptoCardSaid : Prop := Claim7.holds Tryd.pinned (.plain (OpenSpec.upto fnExactDeedTextSpec)) fnExactDeedTextUptoCard

/-- THE SECOND FORM's CARD OF 'laws.FnExactFactorsText'. -/
def fnExactFactorsTextUptoCard : Claim7 := { stood := { row := fnExactFactorsTextUptoRow, standIns := [], harness := (true, "d8e3320bb2e814b8f0d77508041e6a5535ad19f1b609d9c5860049517b51128c"), looks := true }, kinds := [], alts := [], laidByText := true, laidKinds := [.data, .data, .data], laidTests := true, laidLooks := .later }
def FnExactFactorsTextUptoCardSaid : Prop := Claim7.holds Tryd.pinned (.plain (OpenSpec.upto fnExactFactorsTextSpec)) fnExactFactorsTextUptoCard

/-- THE SECOND FORM's CARD OF 'laws.FnExactEditText'. -/
def fnExactEditTextUptoCard : Claim7 := { stood := { row := fnExactEditTextUptoRow, standIns := [], harness := (true, "d8e3320bb2e814b8f0d77508041e6a5535ad19f1b609d9c5860049517b51128c"), looks := true }, kinds := [], alts := [], laidByText := true, laidKinds := [.data, .data, .data], laidTests := true, laidLooks := .later }
def FnExactEditTextUptoCardSaid : Prop := Claim7.holds Tryd.pinned (.plain (OpenSpec.upto fnExactEditTextSpec)) fnExactEditTextUptoCard

/-- THE SECOND FORM's CARD OF 'laws.FnExactAutoText'. -/
def fnExactAutoTextUptoCard : Claim7 := { stood := { row := fnExactAutoTextUptoRow, standIns := [], harness := (true, "d8e3320bb2e814b8f0d77508041e6a5535ad19f1b609d9c5860049517b51128c"), looks := true }, kinds := [], alts := [], laidByText := true, laidKinds := [.data, .data, .data], laidTests := true, laidLooks := .later }
def FnExactAutoTextUptoCardSaid : Prop := Claim7.holds Tryd.pinned (.plain (OpenSpec.upto fnExactAutoTextSpec)) fnExactAutoTextUptoCard
end Rows
end Go.Proofs.YtcaeihdfljljbaaDoor
