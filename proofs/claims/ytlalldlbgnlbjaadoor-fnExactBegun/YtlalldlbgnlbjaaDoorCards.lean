/-
  DERIVED. GIVEN WITH THE SEED: THE CARDS: each row of YtlalldlbgnlbjaaDoorRows.lean that lists a variable, with what it lists TIED to the program's text (the seventh form; the later family's looks); each row that meets fmt, with fmt's text TOLD by the authors' own Lean function (tested against real Go, not proved from fmt's source: count such statements apart). THE CARD IS WHAT COUNTS. Prove the row's statement (the work); the ties are given (YtlalldlbgnlbjaaDoorTie.lean); close each card by the builder's one call (the guide's Derived/Test/ToyasCard.lean, 'card_holds'). Laid BY PROGRAM, IN A SANDBOX (cutbox-door.mjs). By AI agents, Wed Nov 11 2026. No macro, syntax, notation, axiom, sorry.
-/
import Derived.Test.YtlalldlbgnlbjaaDoorRows
import GoSem.ClaimSeven
namespace Go.Proofs.YtlalldlbgnlbjaaDoor
namespace Rows

/-- THE TIED CARD OF 'laws.FnExactBegun'. -/
def fnExactBegunCard : Claim7 := { stood := { row := fnExactBegunRow, standIns := [], harness := (true, "8108a2cb269f0fa8277078bb5003e662f6fc07fdafe350e30ebabad5199e2baf"), looks := true }, kinds := [], alts := [], laidByText := true, laidKinds := [.handle, .sentinel, .sentinel], laidTests := true, laidLooks := .later }
def FnExactBegunCardSaid : Prop := Claim7.holds Tryd.pinned (.plain (OpenSpec.ofChange fnExactBegunSpec)) fnExactBegunCard

/-- THE TIED CARD OF 'laws.FnBegun'. -/
def fnBegunCard : Claim7 := { stood := { row := fnBegunRow, standIns := [], harness := (true, "8108a2cb269f0fa8277078bb5003e662f6fc07fdafe350e30ebabad5199e2baf"), looks := true }, kinds := [], alts := [], laidByText := true, laidKinds := [.handle, .data, .sentinel, .sentinel], laidTests := true, laidLooks := .later }
def FnBegunCardSaid : Prop := Claim7.holds Tryd.pinned (.plain (OpenSpec.ofChange fnBegunSpec)) fnBegunCard

/-- THE SECOND FORM's CARD OF 'laws.FnExactBegun'. -/
def fnExactBegunUptoCard : Claim7 := { stood := { row := fnExactBegunUptoRow, standIns := [], harness := (true, "8108a2cb269f0fa8277078bb5003e662f6fc07fdafe350e30ebabad5199e2baf"), looks := true }, kinds := [], alts := [], laidByText := true, laidKinds := [.handle, .sentinel, .sentinel], laidTests := true, laidLooks := .later }
def FnExactBegunUptoCardSaid : Prop := Claim7.holds Tryd.pinned (.plain (OpenSpec.upto fnExactBegunSpec)) fnExactBegunUptoCard

/-- THE SECOND FORM's CARD OF 'laws.FnBegun'. -/
def fnBegunUptoCard : Claim7 := { stood := { row := fnBegunUptoRow, standIns := [], harness := (true, "8108a2cb269f0fa8277078bb5003e662f6fc07fdafe350e30ebabad5199e2baf"), looks := true }, kinds := [], alts := [], laidByText := true, laidKinds := [.handle, .data, .sentinel, .sentinel], laidTests := true, laidLooks := .later }
def FnBegunUptoCardSaid : Prop := Claim7.holds Tryd.pinned (.plain (OpenSpec.upto fnBegunSpec)) fnBegunUptoCard
end Rows
end Go.Proofs.YtlalldlbgnlbjaaDoor
