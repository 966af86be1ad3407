/-
  DERIVED. GIVEN WITH THE SEED: THE CARDS: each row of YtlalldlbgnlbjaaGreatDoorRows.lean that lists a variable, with what it lists TIED to the program's text (the seventh form; the later family's looks); each row that meets fmt, with fmt's text TOLD by the authors' own Lean function (tested against real Go, not proved from fmt's source: count such statements apart). THE CARD IS WHAT COUNTS. Prove the row's statement (the work); the ties are given (YtlalldlbgnlbjaaGreatDoorTie.lean); close each card by the builder's one call (the guide's Derived/Test/ToyasCard.lean, 'card_holds'). Laid BY PROGRAM, IN A SANDBOX (cutbox-door.mjs). By AI agents, Wed Nov 11 2026. No macro, syntax, notation, axiom, sorry.
-/
import Derived.Test.YtlalldlbgnlbjaaGreatDoorRows
import GoSem.ClaimSeven
namespace Go.Proofs.YtlalldlbgnlbjaaGreatDoor
namespace Rows

/-- THE TIED CARD OF 'laws.FnExactHomeGot'. -/
def fnExactHomeGotCard : Claim7 := { stood := { row := fnExactHomeGotRow, standIns := [], harness := (true, "3a4d89c827b32669df9fd7693cbff383c59f7fdd0b34a9bc833b74ec938db771"), looks := true }, kinds := [], alts := [], laidByText := true, laidKinds := [.handle, .data, .sentinel, .sentinel, .sentinel, .sentinel, .sentinel], laidTests := true, laidLooks := .later }
def FnExactHomeGotCardSaid : Prop := Claim7.holds Tryz.pinned (.plain (OpenSpec.ofChange fnExactHomeGotSpec)) fnExactHomeGotCard

/-- THE TIED CARD OF 'laws.FnHomeGot'. -/
def fnHomeGotCard : Claim7 := { stood := { row := fnHomeGotRow, standIns := [], harness := (true, "3a4d89c827b32669df9fd7693cbff383c59f7fdd0b34a9bc833b74ec938db771"), looks := true }, kinds := [], alts := [], laidByText := true, laidKinds := [.handle, .data, .sentinel, .sentinel, .sentinel, .sentinel, .sentinel], laidTests := true, laidLooks := .later }
def FnHomeGotCardSaid : Prop := Claim7.holds Tryz.pinned (.plain (OpenSpec.ofChange fnHomeGotSpec)) fnHomeGotCard

/-- THE SECOND FORM's CARD OF 'laws.FnExactHomeGot'. -/
def fnExactHomeGotUptoCard : Claim7 := { stood := { row := fnExactHomeGotUptoRow, standIns := [], harness := (true, "3a4d89c827b32669df9fd7693cbff383c59f7fdd0b34a9bc833b74ec938db771"), looks := true }, kinds := [], alts := [], laidByText := true, laidKinds := [.handle, .data, .sentinel, .sentinel, .sentinel, .sentinel, .sentinel], laidTests := true, laidLooks := .later }
def FnExactHomeGotUptoCardSaid : Prop := Claim7.holds Tryz.pinned (.plain (OpenSpec.upto fnExactHomeGotSpec)) fnExactHomeGotUptoCard

/-- THE SECOND FORM's CARD OF 'laws.FnHomeGot'. -/
def fnHomeGotUptoCard : Claim7 := { stood := { row := fnHomeGotUptoRow, standIns := [], harness := (true, "3a4d89c827b32669df9fd7693cbff383c59f7fdd0b34a9bc833b74ec938db771"), looks := true }, kinds := [], alts := [], laidByText := true, laidKinds := [.handle, .data, .sentinel, .sentinel, .sentinel, .sentinel, .sentinel], laidTests := true, laidLooks := .later }
def FnHomeGotUptoCardSaid : Prop := Claim7.holds Tryz.pinned (.plain (OpenSpec.upto fnHomeGotSpec)) fnHomeGotUptoCard
end Rows
end Go.Proofs.YtlalldlbgnlbjaaGreatDoor
