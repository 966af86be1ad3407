/-
  DERIVED. GIVEN WITH THE SEED: THE CARDS: each row of YtjhaloeahidplaaDoorRows.lean that lists a variable, with what it lists TIED to the program's text (the seventh form; the later family's looks); each row that meets fmt, with fmt's text TOLD by the authors' own Lean function (tested against real Go, not proved from fmt's source: count such statements apart). THE CARD IS WHAT COUNTS. Prove the row's statement (the work); the ties are given (YtjhaloeahidplaaDoorTie.lean); close each card by the builder's one call (the guide's Derived/Test/ToyasCard.lean, 'card_holds'). Laid BY PROGRAM, IN A SANDBOX (cutbox-door.mjs). By AI agents, Wed Nov 11 2026. No macro, syntax, notation, axiom, sorry.
-/
import Derived.Test.YtjhaloeahidplaaDoorRows
import GoSem.ClaimSeven
namespace Go.Proofs.YtjhaloeahidplaaDoor
namespace Rows

/-- THE TIED CARD OF 'laws.FnMsgTexts'. -/
def fnMsgTextsCard : Claim7 := { stood := { row := fnMsgTextsRow, standIns := [], harness := (true, "66436436fcd29a67f4787df3d4c56f334030aeb4ef6f5543d29227a37a95472b"), looks := true }, kinds := [], alts := [], laidByText := true, laidKinds := [.data, .data, .data, .data, .data, .pinned], laidTests := true, laidLooks := .later }
def FnMsgTextsCardSaid : Prop := Claim7.holds Tryd.pinned (.plain (OpenSpec.ofChange fnMsgTextsSpec)) fnMsgTextsCard

/-- THE TIED CARD OF 'laws.FnAsked'. -/
def fnAskedCard : Claim7 := { stood := { row := fnAskedRow, standIns := [], harness := (true, "66436436fcd29a67f4787df3d4c56f334030aeb4ef6f5543d29227a37a95472b"), looks := true }, kinds := [], alts := [], laidByText := true, laidKinds := [.data], laidTests := true, laidLooks := .later }
def FnAskedCardSaid : Prop := Claim7.holds Tryd.pinned (.plain (OpenSpec.ofChange fnAskedSpec)) fnAskedCard

/-- THE TIED CARD OF 'laws.FnStored'. -/
def fnStoredCard : Claim7 := { stood := { row := fnStoredRow, standIns := [], harness := (true, "66436436fcd29a67f4787df3d4c56f334030aeb4ef6f5543d29227a37a95472b"), looks := true }, kinds := [], alts := [], laidByText := true, laidKinds := [.data], laidTests := true, laidLooks := .later }
def FnStoredCardSaid : Prop := Claim7.holds Tryd.pinned (.plain (OpenSpec.ofChange fnStoredSpec)) fnStoredCard

/-- THE TIED CARD OF 'laws.FnCoreGot'. -/
def fnCoreGotCard : Claim7 := { stood := { row := fnCoreGotRow, standIns := [], harness := (true, "66436436fcd29a67f4787df3d4c56f334030aeb4ef6f5543d29227a37a95472b"), looks := true }, kinds := [], alts := [], laidByText := true, laidKinds := [.data], laidTests := true, laidLooks := .later }
def FnCoreGotCardSaid : Prop := Claim7.holds Tryd.pinned (.plain (OpenSpec.ofChange fnCoreGotSpec)) fnCoreGotCard

/-- THE TIED CARD OF 'laws.FnMachineNew'. -/
def fnMachineNewCard : Claim7 := { stood := { row := fnMachineNewRow, standIns := [], harness := (true, "66436436fcd29a67f4787df3d4c56f334030aeb4ef6f5543d29227a37a95472b"), looks := true }, kinds := [], alts := [], laidByText := true, laidKinds := [.data], laidTests := true, laidLooks := .later }
def FnMachineNewCardSaid : Prop := Claim7.holds Tryd.pinned (.plain (OpenSpec.ofChange fnMachineNewSpec)) fnMachineNewCard

/-- THE TIED CARD OF 'laws.FnExactCoreGot'. -/
def fnExactCoreGotCard : Claim7 := { stood := { row := fnExactCoreGotRow, standIns := [], harness := (true, "66436436fcd29a67f4787df3d4c56f334030aeb4ef6f5543d29227a37a95472b"), looks := true }, kinds := [], alts := [], laidByText := true, laidKinds := [.data], laidTests := true, laidLooks := .later }
def FnExactCoreGotCardSaid : Prop := Claim7.holds Tryd.pinned (.plain (OpenSpec.ofChange fnExactCoreGotSpec)) fnExactCoreGotCard

/-- THE TIED CARD OF 'laws.FnExactMachineOk'. -/
def fnExactMachineOkCard : Claim7 := { stood := { row := fnExactMachineOkRow, standIns := [], harness := (true, "66436436fcd29a67f4787df3d4c56f334030aeb4ef6f5543d29227a37a95472b"), looks := true }, kinds := [], alts := [], laidByText := true, laidKinds := [.data], laidTests := true, laidLooks := .later }
def FnExactMachineOkCardSaid : Prop := Claim7.holds Tryd.pinned (.plain (OpenSpec.ofChange fnExactMachineOkSpec)) fnExactMachineOkCard

/-- THE TIED CARD OF 'laws.FnExactOwnersOf'. -/
def fnExactOwnersOfCard : Claim7 := { stood := { row := fnExactOwnersOfRow, standIns := [], harness := (true, "66436436fcd29a67f4787df3d4c56f334030aeb4ef6f5543d29227a37a95472b"), looks := true }, kinds := [], alts := [], laidByText := true, laidKinds := [.data], laidTests := true, laidLooks := .later }
def FnExactOwnersOfCardSaid : Prop := Claim7.holds Tryd.pinned (.plain (OpenSpec.ofChange fnExactOwnersOfSpec)) fnExactOwnersOfCard

/-- THE TIED CARD OF 'laws.FnExactSharersOf'. -/
def fnExactSharersOfCard : Claim7 := { stood := { row := fnExactSharersOfRow, standIns := [], harness := (true, "66436436fcd29a67f4787df3d4c56f334030aeb4ef6f5543d29227a37a95472b"), looks := true }, kinds := [], alts := [], laidByText := true, laidKinds := [.data], laidTests := true, laidLooks := .later }
def FnExactSharersOfCardSaid : Prop := Claim7.holds Tryd.pinned (.plain (OpenSpec.ofChange fnExactSharersOfSpec)) fnExactSharersOfCard

/-- THE TIED CARD OF 'laws.FnExactNewestOf'. -/
def fnExactNewestOfCard : Claim7 := { stood := { row := fnExactNewestOfRow, standIns := [], harness := (true, "66436436fcd29a67f4787df3d4c56f334030aeb4ef6f5543d29227a37a95472b"), looks := true }, kinds := [], alts := [], laidByText := true, laidKinds := [.data], laidTests := true, laidLooks := .later }
def FnExactNewestOfCardSaid : Prop := Claim7.holds Tryd.pinned (.plain (OpenSpec.ofChange fnExactNewestOfSpec)) fnExactNewestOfCard

/-- THE TIED CARD OF 'laws.FnExactOneWriter'. -/
def fnExactOneWriterCard : Claim7 := { stood := { row := fnExactOneWriterRow, standIns := [], harness := (true, "66436436fcd29a67f4787df3d4c56f334030aeb4ef6f5543d29227a37a95472b"), looks := true }, kinds := [], alts := [], laidByText := true, laidKinds := [.data], laidTests := true, laidLooks := .later }
def FnExactOneWriterCardSaid : Prop := Claim7.holds Tryd.pinned (.plain (OpenSpec.ofChange fnExactOneWriterSpec)) fnExactOneWriterCard

/-- THE TIED CARD OF 'laws.FnExactQuiet'. -/
def fnExactQuietCard : Claim7 := { stood := { row := fnExactQuietRow, standIns := [], harness := (true, "66436436fcd29a67f4787df3d4c56f334030aeb4ef6f5543d29227a37a95472b"), looks := true }, kinds := [], alts := [], laidByText := true, laidKinds := [.data], laidTests := true, laidLooks := .later }
def FnExactQuietCardSaid : Prop := Claim7.holds Tryd.pinned (.plain (OpenSpec.ofChange fnExactQuietSpec)) fnExactQuietCard

/-- THE SECOND FORM's CARD OF 'laws.FnMsgTexts'. -/
def fnMsgTextsUptoCard : Claim7 := { stood := { row := fnMsgTextsUptoRow, standIns := [], harness := (true, "66436436fcd29a67f4787df3d4c56f334030aeb4ef6f5543d29227a37a95472b"), looks := true }, kinds := [], alts := [], laidByText := true, laidKinds := [.data, .data, .data, .data, .data, .pinned], laidTests := true, laidLooks := .later }
def FnMsgTextsUptoCardSaid : Prop := Claim7.holds Tryd.pinned (.plain (OpenSpec.upto fnMsgTextsSpec)) fnMsgTextsUptoCard

/-- THE SECOND FORM's CARD OF 'laws.FnAsked'. -/
def fnAskedUptoCard : Claim7 := { stood := { row := fnAskedUptoRow, standIns := [], harness := (true, "66436436fcd29a67f4787df3d4c56f334030aeb4ef6f5543d29227a37a95472b"), looks := true }, kinds := [], alts := [], laidByText := true, laidKinds := [.data], laidTests := true, laidLooks := .later }
def FnAskedUptoCardSaid : Prop := Claim7.holds Tryd.pinned (.plain (OpenSpec.upto fnAskedSpec)) fnAskedUptoCard

/-- THE SECOND FORM's CARD OF 'laws.FnStored'. -/
def fnStoredUptoCard : Claim7 := { stood := { row := fnStoredUptoRow, standIns := [], harness := (true, "66436436fcd29a67f4787df3d4c56f334030aeb4ef6f5543d29227a37a95472b"), looks := true }, kinds := [], alts := [], laidByText := true, laidKinds := [.data], laidTests := true, laidLooks := .later }
def FnStoredUptoCardSaid : Prop := Claim7.holds Tryd.pinned (.plain (OpenSpec.upto fnStoredSpec)) fnStoredUptoCard

/-- THE SECOND FORM's CARD OF 'laws.FnCoreGot'. -/
def fnCoreGotUptoCard : Claim7 := { stood := { row := fnCoreGotUptoRow, standIns := [], harness := (true, "66436436fcd29a67f4787df3d4c56f334030aeb4ef6f5543d29227a37a95472b"), looks := true }, kinds := [], alts := [], laidByText := true, laidKinds := [.data], laidTests := true, laidLooks := .later }
def FnCoreGotUptoCardSaid : Prop := Claim7.holds Tryd.pinned (.plain (OpenSpec.upto fnCoreGotSpec)) fnCoreGotUptoCard

/-- THE SECOND FORM's CARD OF 'laws.FnMachineNew'. -/
def fnMachineNewUptoCard : Claim7 := { stood := { row := fnMachineNewUptoRow, standIns := [], harness := (true, "66436436fcd29a67f4787df3d4c56f334030aeb4ef6f5543d29227a37a95472b"), looks := true }, kinds := [], alts := [], laidByText := true, laidKinds := [.data], laidTests := true, laidLooks := .later }
def FnMachineNewUptoCardSaid : Prop := Claim7.holds Tryd.pinned (.plain (OpenSpec.upto fnMachineNewSpec)) fnMachineNewUptoCard

/-- THE SECOND FORM's CARD OF 'laws.FnExactCoreGot'. -/
def fnExactCoreGotUptoCard : Claim7 := { stood := { row := fnExactCoreGotUptoRow, standIns := [], harness := (true, "66436436fcd29a67f4787df3d4c56f334030aeb4ef6f5543d29227a37a95472b"), looks := true }, kinds := [], alts := [], laidByText := true, laidKinds := [.data], laidTests := true, laidLooks := .later }
def FnExactCoreGotUptoCardSaid : Prop := Claim7.holds Tryd.pinned (.plain (OpenSpec.upto fnExactCoreGotSpec)) fnExactCoreGotUptoCard

/-- THE SECOND FORM's CARD OF 'laws.FnExactMachineOk'. -/
def fnExactMachineOkUptoCard : Claim7 := { stood := { row := fnExactMachineOkUptoRow, standIns := [], harness := (true, "66436436fcd29a67f4787df3d4c56f334030aeb4ef6f5543d29227a37a95472b"), looks := true }, kinds := [], alts := [], laidByText := true, laidKinds := [.data], laidTests := true, laidLooks := .later }
def FnExactMachineOkUptoCardSaid : Prop := Claim7.holds Tryd.pinned (.plain (OpenSpec.upto fnExactMachineOkSpec)) fnExactMachineOkUptoCard

/-- THE SECOND FORM's CARD OF 'laws.FnExactOwnersOf'. -/
def fnExactOwnersOfUptoCard : Claim7 := { stood := { row := fnExactOwnersOfUptoRow, standIns := [], harness := (true, "66436436fcd29a67f4787df3d4c56f334030aeb4ef6f5543d29227a37a95472b"), looks := true }, kinds := [], alts := [], laidByText := true, laidKinds := [.data], laidTests := true, laidLooks := .later }
def FnExactOwnersOfUptoCardSaid : Prop := Claim7.holds Tryd.pinned (.plain (OpenSpec.upto fnExactOwnersOfSpec)) fnExactOwnersOfUptoCard

/-- THE SECOND FORM's CARD OF 'laws.FnExactSharersOf'. -/
def fnExactSharersOfUptoCard : Claim7 := { stood := { row := fnExactSharersOfUptoRow, standIns := [], harness := (true, "66436436fcd29a67f4787df3d4c56f334030aeb4ef6f5543d29227a37a95472b"), looks := true }, kinds := [], alts := [], laidByText := true, laidKinds := [.data], laidTests := true, laidLooks := .later }
def FnExactSharersOfUptoCardSaid : Prop := Claim7.holds Tryd.pinned (.plain (OpenSpec.upto fnExactSharersOfSpec)) fnExactSharersOfUptoCard

/-- THE SECOND FORM's CARD OF 'laws.FnExactNewestOf'. -/
def fnExactNewestOfUptoCard : Claim7 := { stood := { row := fnExactNewestOfUptoRow, standIns := [], harness := (true, "66436436fcd29a67f4787df3d4c56f334030aeb4ef6f5543d29227a37a95472b"), looks := true }, kinds := [], alts := [], laidByText := true, laidKinds := [.data], laidTests := true, laidLooks := .later }
def FnExactNewestOfUptoCardSaid : Prop := Claim7.holds Tryd.pinned (.plain (OpenSpec.upto fnExactNewestOfSpec)) fnExactNewestOfUptoCard

/-- THE SECOND FORM's CARD OF 'laws.FnExactOneWriter'. -/
def fnExactOneWriterUptoCard : Claim7 := { stood := { row := fnExactOneWriterUptoRow, standIns := [], harness := (true, "66436436fcd29a67f4787df3d4c56f334030aeb4ef6f5543d29227a37a95472b"), looks := true }, kinds := [], alts := [], laidByText := true, laidKinds := [.data], laidTests := true, laidLooks := .later }
def FnExactOneWriterUptoCardSaid : Prop := Claim7.holds Tryd.pinned (.plain (OpenSpec.upto fnExactOneWriterSpec)) fnExactOneWriterUptoCard

/-- THE SECOND FORM's CARD OF 'laws.FnExactQuiet'. -/
def fnExactQuietUptoCard : Claim7 := { stood := { row := fnExactQuietUptoRow, standIns := [], harness := (true, "66436436fcd29a67f4787df3d4c56f334030aeb4ef6f5543d29227a37a95472b"), looks := true }, kinds := [], alts := [], laidByText := true, laidKinds := [.data], laidTests := true, laidLooks := .later }
def FnExactQuietUptoCardSaid : Prop := Claim7.holds Tryd.pinned (.plain (OpenSpec.upto fnExactQuietSpec)) fnExactQuietUptoCard
end Rows
end Go.Proofs.YtjhaloeahidplaaDoor
