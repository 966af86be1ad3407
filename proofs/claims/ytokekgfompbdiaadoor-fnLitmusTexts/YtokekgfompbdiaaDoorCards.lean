/-
  DERIVED. GIVEN WITH THE SEED: THE CARDS: each row of YtokekgfompbdiaaDoorRows.lean that lists a variable, with what it lists TIED to the program's text (the seventh form; the later family's looks); each row that meets fmt, with fmt's text TOLD by the authors' own Lean function (tested against real Go, not proved from fmt's source: count such statements apart). THE CARD IS WHAT COUNTS. Prove the row's statement (the work); the ties are given (YtokekgfompbdiaaDoorTie.lean); close each card by the builder's one call (the guide's Derived/Test/ToyasCard.lean, 'card_holds'). Laid BY PROGRAM, IN A SANDBOX (cutbox-door.mjs). By AI agents, Wed Nov 11 2026. No macro, syntax, notation, axiom, sorry.
-/
import Derived.Test.YtokekgfompbdiaaDoorRows
import GoSem.ClaimSeven
namespace Go.Proofs.YtokekgfompbdiaaDoor
namespace Rows

/-- THE TIED CARD OF 'laws.FnLitmusTexts'. -/
def fnLitmusTextsCard : Claim7 := { stood := { row := fnLitmusTextsRow, standIns := [], harness := (true, "f8f084267401a38a4848eb0f383dc77620f8741f07e5783828833df63cc73f97"), looks := false }, kinds := [], alts := [], laidByText := true, laidKinds := [.data, .data, .data, .data, .pinned], laidTests := true, laidLooks := .later }
def FnLitmusTextsCardSaid : Prop := Claim7.holds Tryd.pinned (.plain (OpenSpec.ofChange fnLitmusTextsSpec)) fnLitmusTextsCard

/-- THE SECOND FORM's CARD OF 'laws.FnLitmusTexts'. -/
def fnLitmusTextsUptoCard : Claim7 := { stood := { row := fnLitmusTextsUptoRow, standIns := [], harness := (true, "f8f084267401a38a4848eb0f383dc77620f8741f07e5783828833df63cc73f97"), looks := false }, kinds := [], alts := [], laidByText := true, laidKinds := [.data, .data, .data, .data, .pinned], laidTests := true, laidLooks := .later }
def FnLitmusTextsUptoCardSaid : Prop := Claim7.holds Tryd.pinned (.plain (OpenSpec.upto fnLitmusTextsSpec)) fnLitmusTextsUptoCard
end Rows
end Go.Proofs.YtokekgfompbdiaaDoor
