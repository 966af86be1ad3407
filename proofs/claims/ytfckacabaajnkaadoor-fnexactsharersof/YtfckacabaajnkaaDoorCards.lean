/-
  DERIVED. GIVEN WITH THE SEED: THE CARDS: each row of YtfckacabaajnkaaDoorRows.lean that lists a variable, with what it lists TIED to the program's text (the seventh form; the later family's looks); each row that meets fmt, with fmt's text TOLD by the authors' own Lean function (tested against real Go, not proved from fmt's source: count such statements apart). THE CARD IS WHAT COUNTS. Prove the row's statement (the work); the ties are given (YtfckacabaajnkaaDoorTie.lean); close each card by the builder's one call (the guide's Derived/Test/ToyasCard.lean, 'card_holds'). Laid BY PROGRAM, IN A SANDBOX (cutbox-door.mjs). By AI agents, Wed Nov 11 2026. No macro, syntax, notation, axiom, sorry.
-/
import Derived.Test.YtfckacabaajnkaaDoorRows
import GoSem.ClaimSeven
namespace Go.Proofs.YtfckacabaajnkaaDoor
namespace Rows

/-- THE TIED CARD OF 'laws.FnExactOwnersOf'. -/
def fnExactOwnersOfCard : Claim7 := { stood := { row := fnExactOwnersOfRow, standIns := [], harness := (true, "248617806928c30e25c13285b4fc3fae4fa1f2951f53dc72cd599e4d8e24d08e"), looks := false }, kinds := [], alts := [], laidByText := true, laidKinds := [.data], laidTests := true, laidLooks := .later }
def FnExactOwnersOfCardSaid : Prop := Claim7.holds Tryd.pinned (.plain (OpenSpec.ofChange fnExactOwnersOfSpec)) fnExactOwnersOfCard

/-- THE TIED CARD OF 'laws.FnExactSharersOf'. -/
def fnExactSharersOfCard : Claim7 := { stood := { row := fnExactSharersOfRow, standIns := [], harness := (true, "248617806928c30e25c13285b4fc3fae4fa1f2951f53dc72cd599e4d8e24d08e"), looks := false }, kinds := [], alts := [], laidByText := true, laidKinds := [.data], laidTests := true, laidLooks := .later }
def FnExactSharersOfCardSaid : Prop := Claim7.holds Tryd.pinned (.plain (OpenSpec.ofChange fnExactSharersOfSpec)) fnExactSharersOfCard

/-- THE TIED CARD OF 'laws.FnExactNewestOf'. -/
def fnExactNewestOfCard : Claim7 := { stood := { row := fnExactNewestOfRow, standIns := [], harness := (true, "248617806928c30e25c13285b4fc3fae4fa1f2951f53dc72cd599e4d8e24d08e"), looks := false }, kinds := [], alts := [], laidByText := true, laidKinds := [.data], laidTests := true, laidLooks := .later }
def FnExactNewestOfCardSaid : Prop := Claim7.holds Tryd.pinned (.plain (OpenSpec.ofChange fnExactNewestOfSpec)) fnExactNewestOfCard

/-- THE TIED CARD OF 'laws.FnExactOneWriter'. -/
def fnExactOneWriterCard : Claim7 := { stood := { row := fnExactOneWriterRow, standIns := [], harness := (true, "248617806928c30e25c13285b4fc3fae4fa1f2951f53dc72cd599e4d8e24d08e"), looks := false }, kinds := [], alts := [], laidByText := true, laidKinds := [.data], laidTests := true, laidLooks := .later }
def FnExactOneWriterCardSaid : Prop := Claim7.holds Tryd.pinned (.plain (OpenSpec.ofChange fnExactOneWriterSpec)) fnExactOneWriterCard

/-- THE TIED CARD OF 'laws.FnExactQuiet'. -/
def fnExactQuietCard : Claim7 := { stood := { row := fnExactQuietRow, standIns := [], harness := (true, "248617806928c30e25c13285b4fc3fae4fa1f2951f53dc72cd599e4d8e24d08e"), looks := false }, kinds := [], alts := [], laidByText := true, laidKinds := [.data], laidTests := true, laidLooks := .later }
def FnExactQuietCardSaid : Prop := Claim7.holds Tryd.pinned (.plain (OpenSpec.ofChange fnExactQuietSpec)) fnExactQuietCard

/-- THE SECOND FORM's CARD OF 'laws.FnExactOwnersOf'. -/
def fnExactOwnersOfUptoCard : Claim7 := { stood := { row := fnExactOwnersOfUptoRow, standIns := [], harness := (true, "248617806928c30e25c13285b4fc3fae4fa1f2951f53dc72cd599e4d8e24d08e"), looks := false }, kinds := [], alts := [], laidByText := true, laidKinds := [.data], laidTests := true, laidLooks := .later }
def FnExactOwnersOfUptoCardSaid : Prop := Claim7.holds Tryd.pinned (.plain (OpenSpec.upto fnExactOwnersOfSpec)) fnExactOwnersOfUptoCard

/-- THE SECOND FORM's CARD OF 'laws.FnExactSharersOf'. -/
def fnExactSharersOfUptoCard : Claim7 := { stood := { row := fnExactSharersOfUptoRow, standIns := [], harness := (true, "248617806928c30e25c13285b4fc3fae4fa1f2951f53dc72cd599e4d8e24d08e"), looks := false }, kinds := [], alts := [], laidByText := true, laidKinds := [.data], laidTests := true, laidLooks := .later }
def FnExactSharersOfUptoCardSaid : Prop := Claim7.holds Tryd.pinned (.plain (OpenSpec.upto fnExactSharersOfSpec)) fnExactSharersOfUptoCard

/-- THE SECOND FORM's CARD OF 'laws.FnExactNewestOf'. -/
def fnExactNewestOfUptoCard : Claim7 := { stood := { row := fnExactNewestOfUptoRow, standIns := [], harness := (true, "248617806928c30e25c13285b4fc3fae4fa1f2951f53dc72cd599e4d8e24d08e"), looks := false }, kinds := [], alts := [], laidByText := true, laidKinds := [.data], laidTests := true, laidLooks := .later }
def FnExactNewestOfUptoCardSaid : Prop := Claim7.holds Tryd.pinned (.plain (OpenSpec.upto fnExactNewestOfSpec)) fnExactNewestOfUptoCard

/-- THE SECOND FORM's CARD OF 'laws.FnExactOneWriter'. -/
def fnExactOneWriterUptoCard : Claim7 := { stood := { row := fnExactOneWriterUptoRow, standIns := [], harness := (true, "248617806928c30e25c13285b4fc3fae4fa1f2951f53dc72cd599e4d8e24d08e"), looks := false }, kinds := [], alts := [], laidByText := true, laidKinds := [.data], laidTests := true, laidLooks := .later }
def FnExactOneWriterUptoCardSaid : Prop := Claim7.holds Tryd.pinned (.plain (OpenSpec.upto fnExactOneWriterSpec)) fnExactOneWriterUptoCard

/-- THE SECOND FORM's CARD OF 'laws.FnExactQuiet'. -/
def fnExactQuietUptoCard : Claim7 := { stood := { row := fnExactQuietUptoRow, standIns := [], harness := (true, "248617806928c30e25c13285b4fc3fae4fa1f2951f53dc72cd599e4d8e24d08e"), looks := false }, kinds := [], alts := [], laidByText := true, laidKinds := [.data], laidTests := true, laidLooks := .later }
def FnExactQuietUptoCardSaid : Prop := Claim7.holds Tryd.pinned (.plain (OpenSpec.upto fnExactQuietSpec)) fnExactQuietUptoCard
end Rows
end Go.Proofs.YtfckacabaajnkaaDoor
