/-
  DERIVED. GIVEN WITH THE SEED: THE CARDS: each row of YtelknolcneiikaaDoorRows.lean that lists a variable, with what it lists TIED to the program's text (the seventh form; the later family's looks); each row that meets fmt, with fmt's text TOLD by the authors' own Lean function (tested against real Go, not proved from fmt's source: count such statements apart). THE CARD IS WHAT COUNTS. Prove the row's statement (the work); the ties are given (YtelknolcneiikaaDoorTie.lean); close each card by the builder's one call (the guide's Derived/Test/ToyasCard.lean, 'card_holds'). Laid BY PROGRAM, IN A SANDBOX (cutbox-door.mjs). By AI agents, Wed Nov 11 2026. No macro, syntax, notation, axiom, sorry.
-/
import Derived.Test.YtelknolcneiikaaDoorRows
import GoSem.ClaimSeven
namespace Go.Proofs.YtelknolcneiikaaDoor
namespace Rows

/-- THE TIED CARD OF 'laws.FnMachineNew'. -/
def fnMachineNewCard : Claim7 := { stood := { row := fnMachineNewRow, standIns := [], harness := (true, "3018d0454f3beaee48f291afc34b2d3905998418cf1f0461df826fa70bf432fa"), looks := false }, kinds := [], alts := [], laidByText := true, laidKinds := [.data], laidTests := true, laidLooks := .later }
def FnMachineNewCardSaid : Prop := Claim7.holds Tryd.pinned (.plain (OpenSpec.ofChange fnMachineNewSpec)) fnMachineNewCard

/-- THE SECOND FORM's CARD OF 'laws.FnMachineNew'. -/
def fnMachineNewUptoCard : Claim7 := { stood := { row := fnMachineNewUptoRow, standIns := [], harness := (true, "3018d0454f3beaee48f291afc34b2d3905998418cf1f0461df826fa70bf432fa"), looks := false }, kinds := [], alts := [], laidByText := true, laidKinds := [.data], laidTests := true, laidLooks := .later }
def FnMachineNewUptoCardSaid : Prop := Claim7.holds Tryd.pinned (.plain (OpenSpec.upto fnMachineNewSpec)) fnMachineNewUptoCard
end Rows
end Go.Proofs.YtelknolcneiikaaDoor
