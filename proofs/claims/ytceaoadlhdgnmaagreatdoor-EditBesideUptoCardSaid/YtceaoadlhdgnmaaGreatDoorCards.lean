/-
  DERIVED. GIVEN WITH THE SEED: THE CARDS: each row of YtceaoadlhdgnmaaGreatDoorRows.lean that lists a variable, with what it lists TIED to the program's text (the seventh form; the later family's looks); each row that meets fmt, with fmt's text TOLD by the authors' own Lean function (tested against real Go, not proved from fmt's source: count such statements apart). THE CARD IS WHAT COUNTS. Prove the row's statement (the work); the ties are given (YtceaoadlhdgnmaaGreatDoorTie.lean); close each card by the builder's one call (the guide's Derived/Test/ToyasCard.lean, 'card_holds'). Laid BY PROGRAM, IN A SANDBOX (cutbox-door.mjs). By AI agents, Wed Nov 11 2026. No macro, syntax, notation, axiom, sorry.
-/
import Derived.Test.YtceaoadlhdgnmaaGreatDoorRows
import GoSem.ClaimSeven
namespace Go.Proofs.YtceaoadlhdgnmaaGreatDoor
namespace Rows

/-- THE TIED CARD OF 'beaconlaw12.ModeSets'. -/
def modeSetsCard : Claim7 := { stood := { row := modeSetsRow, standIns := [], harness := (true, "1502eb3ea17782bff25f6df46f695b9eb04cafd240e33bfcf113e52ca817187d"), looks := true }, kinds := [], alts := [], laidByText := true, laidKinds := [.data, .pinned], laidTests := true, laidLooks := .later }
def ModeSetsCardSaid : Prop := Claim7.holds Tryz.pinned (.plain (OpenSpec.ofChange modeSetsSpec)) modeSetsCard

/-- THE TIED CARD OF 'beaconlaw12.ModeMargins'. -/
def modeMarginsCard : Claim7 := { stood := { row := modeMarginsRow, standIns := [], harness := (true, "1502eb3ea17782bff25f6df46f695b9eb04cafd240e33bfcf113e52ca817187d"), looks := true }, kinds := [], alts := [], laidByText := true, laidKinds := [.data, .pinned], laidTests := true, laidLooks := .later }
def ModeMarginsCardSaid : Prop := Claim7.holds Tryz.pinned (.plain (OpenSpec.ofChange modeMarginsSpec)) modeMarginsCard

/-- THE TIED CARD OF 'beaconlaw12.ModeResets'. -/
def modeResetsCard : Claim7 := { stood := { row := modeResetsRow, standIns := [], harness := (true, "1502eb3ea17782bff25f6df46f695b9eb04cafd240e33bfcf113e52ca817187d"), looks := true }, kinds := [], alts := [], laidByText := true, laidKinds := [.data, .pinned], laidTests := true, laidLooks := .later }
def ModeResetsCardSaid : Prop := Claim7.holds Tryz.pinned (.plain (OpenSpec.ofChange modeResetsSpec)) modeResetsCard

/-- THE TIED CARD OF 'beaconlaw12.ModeWrap'. -/
def modeWrapCard : Claim7 := { stood := { row := modeWrapRow, standIns := [], harness := (true, "1502eb3ea17782bff25f6df46f695b9eb04cafd240e33bfcf113e52ca817187d"), looks := true }, kinds := [], alts := [], laidByText := true, laidKinds := [.data, .pinned], laidTests := true, laidLooks := .later }
def ModeWrapCardSaid : Prop := Claim7.holds Tryz.pinned (.plain (OpenSpec.ofChange modeWrapSpec)) modeWrapCard

/-- THE TIED CARD OF 'beaconlaw12.ModeOrigin'. -/
def modeOriginCard : Claim7 := { stood := { row := modeOriginRow, standIns := [], harness := (true, "1502eb3ea17782bff25f6df46f695b9eb04cafd240e33bfcf113e52ca817187d"), looks := true }, kinds := [], alts := [], laidByText := true, laidKinds := [.data, .pinned], laidTests := true, laidLooks := .later }
def ModeOriginCardSaid : Prop := Claim7.holds Tryz.pinned (.plain (OpenSpec.ofChange modeOriginSpec)) modeOriginCard

/-- THE TIED CARD OF 'beaconlaw12.ModeShown'. -/
def modeShownCard : Claim7 := { stood := { row := modeShownRow, standIns := [], harness := (true, "1502eb3ea17782bff25f6df46f695b9eb04cafd240e33bfcf113e52ca817187d"), looks := true }, kinds := [], alts := [], laidByText := true, laidKinds := [.data, .pinned], laidTests := true, laidLooks := .later }
def ModeShownCardSaid : Prop := Claim7.holds Tryz.pinned (.plain (OpenSpec.ofChange modeShownSpec)) modeShownCard

/-- THE TIED CARD OF 'beaconlaw12.ModeGrid'. -/
def modeGridCard : Claim7 := { stood := { row := modeGridRow, standIns := [], harness := (true, "1502eb3ea17782bff25f6df46f695b9eb04cafd240e33bfcf113e52ca817187d"), looks := true }, kinds := [], alts := [], laidByText := true, laidKinds := [.data, .pinned], laidTests := true, laidLooks := .later }
def ModeGridCardSaid : Prop := Claim7.holds Tryz.pinned (.plain (OpenSpec.ofChange modeGridSpec)) modeGridCard

/-- THE TIED CARD OF 'beaconlaw12.ModeBare'. -/
def modeBareCard : Claim7 := { stood := { row := modeBareRow, standIns := [], harness := (true, "1502eb3ea17782bff25f6df46f695b9eb04cafd240e33bfcf113e52ca817187d"), looks := true }, kinds := [], alts := [], laidByText := true, laidKinds := [.data, .pinned], laidTests := true, laidLooks := .later }
def ModeBareCardSaid : Prop := Claim7.holds Tryz.pinned (.plain (OpenSpec.ofChange modeBareSpec)) modeBareCard

/-- THE TIED CARD OF 'beaconlaw12.ModeCleared'. -/
def modeClearedCard : Claim7 := { stood := { row := modeClearedRow, standIns := [], harness := (true, "1502eb3ea17782bff25f6df46f695b9eb04cafd240e33bfcf113e52ca817187d"), looks := true }, kinds := [], alts := [], laidByText := true, laidKinds := [.data, .pinned], laidTests := true, laidLooks := .later }
def ModeClearedCardSaid : Prop := Claim7.holds Tryz.pinned (.plain (OpenSpec.ofChange modeClearedSpec)) modeClearedCard

/-- THE TIED CARD OF 'beaconlaw9.PrintRunes'. -/
def printRunesCard : Claim7 := { stood := { row := printRunesRow, standIns := [], harness := (true, "1502eb3ea17782bff25f6df46f695b9eb04cafd240e33bfcf113e52ca817187d"), looks := true }, kinds := [], alts := [], laidByText := true, laidKinds := [.data, .pinned], laidTests := true, laidLooks := .later }
def PrintRunesCardSaid : Prop := Claim7.holds Tryz.pinned (.plain (OpenSpec.ofChange printRunesSpec)) printRunesCard

/-- THE TIED CARD OF 'beaconlaw10.CursorKeeps'. -/
def cursorKeepsCard : Claim7 := { stood := { row := cursorKeepsRow, standIns := [], harness := (true, "1502eb3ea17782bff25f6df46f695b9eb04cafd240e33bfcf113e52ca817187d"), looks := true }, kinds := [], alts := [], laidByText := true, laidKinds := [.data, .pinned], laidTests := true, laidLooks := .later }
def CursorKeepsCardSaid : Prop := Claim7.holds Tryz.pinned (.plain (OpenSpec.ofChange cursorKeepsSpec)) cursorKeepsCard

/-- THE TIED CARD OF 'beaconlaw11.EditBeside'. -/
def editBesideCard : Claim7 := { stood := { row := editBesideRow, standIns := [], harness := (true, "1502eb3ea17782bff25f6df46f695b9eb04cafd240e33bfcf113e52ca817187d"), looks := true }, kinds := [], alts := [], laidByText := true, laidKinds := [.data, .pinned], laidTests := true, laidLooks := .later }
def EditBesideCardSaid : Prop := Claim7.holds Tryz.pinned (.plain (OpenSpec.ofChange editBesideSpec)) editBesideCard

/-- THE SECOND FORM's CARD OF 'beaconlaw12.ModeSets'. -/
def modeSetsUptoCard : Claim7 := { stood := { row := modeSetsUptoRow, standIns := [], harness := (true, "1502eb3ea17782bff25f6df46f695b9eb04cafd240e33bfcf113e52ca817187d"), looks := true }, kinds := [], alts := [], laidByText := true, laidKinds := [.data, .pinned], laidTests := true, laidLooks := .later }
def ModeSetsUptoCardSaid : Prop := Claim7.holds Tryz.pinned (.plain (OpenSpec.upto modeSetsSpec)) modeSetsUptoCard

/-- THE SECOND FORM's CARD OF 'beaconlaw12.ModeMargins'. -/
def modeMarginsUptoCard : Claim7 := { stood := { row := modeMarginsUptoRow, standIns := [], harness := (true, "1502eb3ea17782bff25f6df46f695b9eb04cafd240e33bfcf113e52ca817187d"), looks := true }, kinds := [], alts := [], laidByText := true, laidKinds := [.data, .pinned], laidTests := true, laidLooks := .later }
def ModeMarginsUptoCardSaid : Prop := Claim7.holds Tryz.pinned (.plain (OpenSpec.upto modeMarginsSpec)) modeMarginsUptoCard

/-- THE SECOND FORM's CARD OF 'beaconlaw12.ModeResets'. -/
def modeResetsUptoCard : Claim7 := { stood := { row := modeResetsUptoRow, standIns := [], harness := (true, "1502eb3ea17782bff25f6df46f695b9eb04cafd240e33bfcf113e52ca817187d"), looks := true }, kinds := [], alts := [], laidByText := true, laidKinds := [.data, .pinned], laidTests := true, laidLooks := .later }
def ModeResetsUptoCardSaid : Prop := Claim7.holds Tryz.pinned (.plain (OpenSpec.upto modeResetsSpec)) modeResetsUptoCard

/-- THE SECOND FORM's CARD OF 'beaconlaw12.ModeWrap'. -/
def modeWrapUptoCard : Claim7 := { stood := { row := modeWrapUptoRow, standIns := [], harness := (true, "1502eb3ea17782bff25f6df46f695b9eb04cafd240e33bfcf113e52ca817187d"), looks := true }, kinds := [], alts := [], laidByText := true, laidKinds := [.data, .pinned], laidTests := true, laidLooks := .later }
def ModeWrapUptoCardSaid : Prop := Claim7.holds Tryz.pinned (.plain (OpenSpec.upto modeWrapSpec)) modeWrapUptoCard

/-- THE SECOND FORM's CARD OF 'beaconlaw12.ModeOrigin'. -/
def modeOriginUptoCard : Claim7 := { stood := { row := modeOriginUptoRow, standIns := [], harness := (true, "1502eb3ea17782bff25f6df46f695b9eb04cafd240e33bfcf113e52ca817187d"), looks := true }, kinds := [], alts := [], laidByText := true, laidKinds := [.data, .pinned], laidTests := true, laidLooks := .later }
def ModeOriginUptoCardSaid : Prop := Claim7.holds Tryz.pinned (.plain (OpenSpec.upto modeOriginSpec)) modeOriginUptoCard

/-- THE SECOND FORM's CARD OF 'beaconlaw12.ModeShown'. -/
def modeShownUptoCard : Claim7 := { stood := { row := modeShownUptoRow, standIns := [], harness := (true, "1502eb3ea17782bff25f6df46f695b9eb04cafd240e33bfcf113e52ca817187d"), looks := true }, kinds := [], alts := [], laidByText := true, laidKinds := [.data, .pinned], laidTests := true, laidLooks := .later }
def ModeShownUptoCardSaid : Prop := Claim7.holds Tryz.pinned (.plain (OpenSpec.upto modeShownSpec)) modeShownUptoCard

/-- THE SECOND FORM's CARD OF 'beaconlaw12.ModeGrid'. -/
def modeGridUptoCard : Claim7 := { stood := { row := modeGridUptoRow, standIns := [], harness := (true, "1502eb3ea17782bff25f6df46f695b9eb04cafd240e33bfcf113e52ca817187d"), looks := true }, kinds := [], alts := [], laidByText := true, laidKinds := [.data, .pinned], laidTests := true, laidLooks := .later }
def ModeGridUptoCardSaid : Prop := Claim7.holds Tryz.pinned (.plain (OpenSpec.upto modeGridSpec)) modeGridUptoCard

/-- THE SECOND FORM's CARD OF 'beaconlaw12.ModeBare'. -/
def modeBareUptoCard : Claim7 := { stood := { row := modeBareUptoRow, standIns := [], harness := (true, "1502eb3ea17782bff25f6df46f695b9eb04cafd240e33bfcf113e52ca817187d"), looks := true }, kinds := [], alts := [], laidByText := true, laidKinds := [.data, .pinned], laidTests := true, laidLooks := .later }
def ModeBareUptoCardSaid : Prop := Claim7.holds Tryz.pinned (.plain (OpenSpec.upto modeBareSpec)) modeBareUptoCard

/-- THE SECOND FORM's CARD OF 'beaconlaw12.ModeCleared'. -/
def modeClearedUptoCard : Claim7 := { stood := { row := modeClearedUptoRow, standIns := [], harness := (true, "1502eb3ea17782bff25f6df46f695b9eb04cafd240e33bfcf113e52ca817187d"), looks := true }, kinds := [], alts := [], laidByText := true, laidKinds := [.data, .pinned], laidTests := true, laidLooks := .later }
def ModeClearedUptoCardSaid : Prop := Claim7.holds Tryz.pinned (.plain (OpenSpec.upto modeClearedSpec)) modeClearedUptoCard

/-- THE SECOND FORM's CARD OF 'beaconlaw9.PrintRunes'. -/
def printRunesUptoCard : Claim7 := { stood := { row := printRunesUptoRow, standIns := [], harness := (true, "1502eb3ea17782bff25f6df46f695b9eb04cafd240e33bfcf113e52ca817187d"), looks := true }, kinds := [], alts := [], laidByText := true, laidKinds := [.data, .pinned], laidTests := true, laidLooks := .later }
def PrintRunesUptoCardSaid : Prop := Claim7.holds Tryz.pinned (.plain (OpenSpec.upto printRunesSpec)) printRunesUptoCard

/-- THE SECOND FORM's CARD OF 'beaconlaw10.CursorKeeps'. -/
def cursorKeepsUptoCard : Claim7 := { stood := { row := cursorKeepsUptoRow, standIns := [], harness := (true, "1502eb3ea17782bff25f6df46f695b9eb04cafd240e33bfcf113e52ca817187d"), looks := true }, kinds := [], alts := [], laidByText := true, laidKinds := [.data, .pinned], laidTests := true, laidLooks := .later }
def CursorKeepsUptoCardSaid : Prop := Claim7.holds Tryz.pinned (.plain (OpenSpec.upto cursorKeepsSpec)) cursorKeepsUptoCard

/-- THE SECOND FORM's CARD OF 'beaconlaw11.EditBeside'. -/
def editBesideUptoCard : Claim7 := { stood := { row := editBesideUptoRow, standIns := [], harness := (true, "1502eb3ea17782bff25f6df46f695b9eb04cafd240e33bfcf113e52ca817187d"), looks := true }, kinds := [], alts := [], laidByText := true, laidKinds := [.data, .pinned], laidTests := true, laidLooks := .later }
def EditBesideUptoCardSaid : Prop := Claim7.holds Tryz.pinned (.plain (OpenSpec.upto editBesideSpec)) editBesideUptoCard
end Rows
end Go.Proofs.YtceaoadlhdgnmaaGreatDoor
