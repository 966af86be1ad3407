/-
  DERIVED. GIVEN WITH THE SEED: THE CARDS: each row of YtfnnjgbodlngdaaDoorRows.lean that lists a variable, with what it lists TIED to the program's text (the seventh form; the later family's looks); each row that meets fmt, with fmt's text TOLD by the authors' own Lean function (tested against real Go, not proved from fmt's source: count such statements apart). THE CARD IS WHAT COUNTS. Prove the row's statement (the work); the ties are given (YtfnnjgbodlngdaaDoorTie.lean); close each card by the builder's one call (the guide's Derived/Test/ToyasCard.lean, 'card_holds'). Laid BY PROGRAM, IN A SANDBOX (cutbox-door.mjs). By AI agents, Wed Nov 11 2026. No macro, syntax, notation, axiom, sorry.
-/
import Derived.Test.YtfnnjgbodlngdaaDoorRows
import GoSem.ClaimSeven
namespace Go.Proofs.YtfnnjgbodlngdaaDoor
namespace Rows

/-- THE TIED CARD OF 'laws.FnExactLitmusText'. -/
def fnExactLitmusTextCard : Claim7 := { stood := { row := fnExactLitmusTextRow, standIns := [], harness := (true, "2707a6eec6d9efaeb5ae9727375e00a572e8cedab562f6b3687708b76a1b892f"), looks := false }, kinds := [], alts := [], laidByText := true, laidKinds := [.data, .data, .data], laidTests := true, laidLooks := .later }
def FnExactLitmusTextCardSaid : Prop := Claim7.holds Tryd.pinned (.plain (OpenSpec.ofChange fnExactLitmusTextSpec)) fnExactLitmusTextCard

/-- THE TIED CARD OF 'laws.FnExactOutcomeOf'. -/
def fnExactOutcomeOfCard : Claim7 := { stood := { row := fnExactOutcomeOfRow, standIns := [], harness := (true, "2707a6eec6d9efaeb5ae9727375e00a572e8cedab562f6b3687708b76a1b892f"), looks := false }, kinds := [], alts := [], laidByText := true, laidKinds := [.data, .data, .data], laidTests := true, laidLooks := .later }
def FnExactOutcomeOfCardSaid : Prop := Claim7.holds Tryd.pinned (.plain (OpenSpec.ofChange fnExactOutcomeOfSpec)) fnExactOutcomeOfCard

/-- THE TIED CARD OF 'laws.FnExactReadLitmus'. -/
def fnExactReadLitmusCard : Claim7 := { stood := { row := fnExactReadLitmusRow, standIns := [], harness := (true, "2707a6eec6d9efaeb5ae9727375e00a572e8cedab562f6b3687708b76a1b892f"), looks := false }, kinds := [], alts := [], laidByText := true, laidKinds := [.data, .pinned], laidTests := true, laidLooks := .later }
def FnExactReadLitmusCardSaid : Prop := Claim7.holds Tryd.pinned (.plain (OpenSpec.ofChange fnExactReadLitmusSpec)) fnExactReadLitmusCard

/-- THE SECOND FORM's CARD OF 'laws.FnExactLitmusText'. -/
def fnExactLitmusTextUptoCard : Claim7 := { stood := { row := fnExactLitmusTextUptoRow, standIns := [], harness := (true, "2707a6eec6d9efaeb5ae9727375e00a572e8cedab562f6b3687708b76a1b892f"), looks := false }, kinds := [], alts := [], laidByText := true, laidKinds := [.data, .data, .data], laidTests := true, laidLooks := .later }
def FnExactLitmusTextUptoCardSaid : Prop := Claim7.holds Tryd.pinned (.plain (OpenSpec.upto fnExactLitmusTextSpec)) fnExactLitmusTextUptoCard

/-- THE SECOND FORM's CARD OF 'laws.FnExactOutcomeOf'. -/
def fnExactOutcomeOfUptoCard : Claim7 := { stood := { row := fnExactOutcomeOfUptoRow, standIns := [], harness := (true, "2707a6eec6d9efaeb5ae9727375e00a572e8cedab562f6b3687708b76a1b892f"), looks := false }, kinds := [], alts := [], laidByText := true, laidKinds := [.data, .data, .data], laidTests := true, laidLooks := .later }
def FnExactOutcomeOfUptoCardSaid : Prop := Claim7.holds Tryd.pinned (.plain (OpenSpec.upto fnExactOutcomeOfSpec)) fnExactOutcomeOfUptoCard

/-- THE SECOND FORM's CARD OF 'laws.FnExactReadLitmus'. -/
def fnExactReadLitmusUptoCard : Claim7 := { stood := { row := fnExactReadLitmusUptoRow, standIns := [], harness := (true, "2707a6eec6d9efaeb5ae9727375e00a572e8cedab562f6b3687708b76a1b892f"), looks := false }, kinds := [], alts := [], laidByText := true, laidKinds := [.data, .pinned], laidTests := true, laidLooks := .later }
def FnExactReadLitmusUptoCardSaid : Prop := Claim7.holds Tryd.pinned (.plain (OpenSpec.upto fnExactReadLitmusSpec)) fnExactReadLitmusUptoCard
end Rows
end Go.Proofs.YtfnnjgbodlngdaaDoor
