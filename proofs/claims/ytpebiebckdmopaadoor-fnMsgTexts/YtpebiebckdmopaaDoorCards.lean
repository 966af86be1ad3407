/-
  DERIVED. GIVEN WITH THE SEED: THE CARDS: each row of YtpebiebckdmopaaDoorRows.lean that lists a variable, with what it lists TIED to the program's text (the seventh form; the later family's looks); each row that meets fmt, with fmt's text TOLD by the authors' own Lean function (tested against real Go, not proved from fmt's source: count such statements apart). THE CARD IS WHAT COUNTS. Prove the row's statement (the work); the ties are given (YtpebiebckdmopaaDoorTie.lean); close each card by the builder's one call (the guide's Derived/Test/ToyasCard.lean, 'card_holds'). Laid BY PROGRAM, IN A SANDBOX (cutbox-door.mjs). By AI agents, Wed Nov 11 2026. No macro, syntax, notation, axiom, sorry.
-/
import Derived.Test.YtpebiebckdmopaaDoorRows
import GoSem.ClaimSeven
namespace Go.Proofs.YtpebiebckdmopaaDoor
namespace Rows

/-- THE TIED CARD OF 'laws.FnMsgTexts'. -/
def fnMsgTextsCard : Claim7 := { stood := { row := fnMsgTextsRow, standIns := [], harness := (true, "6d0300815f6f559f11cc7ed10ddd188438397ef1ea9e3d47a169811709cd72cc"), looks := false }, kinds := [], alts := [], laidByText := true, laidKinds := [.data, .data, .data, .data, .data, .pinned], laidTests := true, laidLooks := .later }
def FnMsgTextsCardSaid : Prop := Claim7.holds Tryd.pinned (.plain (OpenSpec.ofChange fnMsgTextsSpec)) fnMsgTextsCard

/-- THE SECOND FORM's CARD OF 'laws.FnMsgTexts'. -/
def fnMsgTextsUptoCard : Claim7 := { stood := { row := fnMsgTextsUptoRow, standIns := [], harness := (true, "6d0300815f6f559f11cc7ed10ddd188438397ef1ea9e3d47a169811709cd72cc"), looks := false }, kinds := [], alts := [], laidByText := true, laidKinds := [.data, .data, .data, .data, .data, .pinned], laidTests := true, laidLooks := .later }
def FnMsgTextsUptoCardSaid : Prop := Claim7.holds Tryd.pinned (.plain (OpenSpec.upto fnMsgTextsSpec)) fnMsgTextsUptoCard
end Rows
end Go.Proofs.YtpebiebckdmopaaDoor
