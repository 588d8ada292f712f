/-
  DERIVED. GIVEN WITH THE SEED: THE CARDS: each row of YtgjpojaegjdjcaaGreatDoorRows.lean that lists a variable, with what it lists TIED to the program's text (the seventh form; the later family's looks); each row that meets fmt, with fmt's text TOLD by the authors' own Lean function (tested against real Go, not proved from fmt's source: count such statements apart). THE CARD IS WHAT COUNTS. Prove the row's statement (the work); the ties are given (YtgjpojaegjdjcaaGreatDoorTie.lean); close each card by the builder's one call (the guide's Derived/Test/ToyasCard.lean, 'card_holds'). Laid BY PROGRAM, IN A SANDBOX (cutbox-door.mjs). By AI agents, Wed Nov 11 2026. No macro, syntax, notation, axiom, sorry.
-/
import Derived.Test.YtgjpojaegjdjcaaGreatDoorRows
import GoSem.ClaimSeven
namespace Go.Proofs.YtgjpojaegjdjcaaGreatDoor
namespace Rows

/-- THE TIED CARD OF 'beaconlaw9.PrintRunes'. -/
def printRunesCard : Claim7 := { stood := { row := printRunesRow, standIns := [], harness := (true, "50757ef8d6c9d982b3a6a9eb6d12afa88677eeb3a913b4f7090b2a4c06f530f1"), looks := true }, kinds := [], alts := [], laidByText := true, laidKinds := [.data, .pinned], laidTests := true, laidLooks := .later }
def PrintRunesCardSaid : Prop := Claim7.holds Tryz.pinned (.plain (OpenSpec.ofChange printRunesSpec)) printRunesCard

/-- THE TIED CARD OF 'beaconlaw9.PrintFeeds'. -/
def printFeedsCard : Claim7 := { stood := { row := printFeedsRow, standIns := [], harness := (true, "50757ef8d6c9d982b3a6a9eb6d12afa88677eeb3a913b4f7090b2a4c06f530f1"), looks := true }, kinds := [], alts := [], laidByText := true, laidKinds := [.data, .pinned], laidTests := true, laidLooks := .later }
def PrintFeedsCardSaid : Prop := Claim7.holds Tryz.pinned (.plain (OpenSpec.ofChange printFeedsSpec)) printFeedsCard

/-- THE TIED CARD OF 'beaconlaw9.PrintMany'. -/
def printManyCard : Claim7 := { stood := { row := printManyRow, standIns := [], harness := (true, "50757ef8d6c9d982b3a6a9eb6d12afa88677eeb3a913b4f7090b2a4c06f530f1"), looks := true }, kinds := [], alts := [], laidByText := true, laidKinds := [.data, .pinned], laidTests := true, laidLooks := .later }
def PrintManyCardSaid : Prop := Claim7.holds Tryz.pinned (.plain (OpenSpec.ofChange printManySpec)) printManyCard

/-- THE TIED CARD OF 'beaconlaw10.CursorKeeps'. -/
def cursorKeepsCard : Claim7 := { stood := { row := cursorKeepsRow, standIns := [], harness := (true, "50757ef8d6c9d982b3a6a9eb6d12afa88677eeb3a913b4f7090b2a4c06f530f1"), looks := true }, kinds := [], alts := [], laidByText := true, laidKinds := [.data, .pinned], laidTests := true, laidLooks := .later }
def CursorKeepsCardSaid : Prop := Claim7.holds Tryz.pinned (.plain (OpenSpec.ofChange cursorKeepsSpec)) cursorKeepsCard

/-- THE SECOND FORM's CARD OF 'beaconlaw9.PrintRunes'. -/
def printRunesUptoCard : Claim7 := { stood := { row := printRunesUptoRow, standIns := [], harness := (true, "50757ef8d6c9d982b3a6a9eb6d12afa88677eeb3a913b4f7090b2a4c06f530f1"), looks := true }, kinds := [], alts := [], laidByText := true, laidKinds := [.data, .pinned], laidTests := true, laidLooks := .later }
def PrintRunesUptoCardSaid : Prop := Claim7.holds Tryz.pinned (.plain (OpenSpec.upto printRunesSpec)) printRunesUptoCard

/-- THE SECOND FORM's CARD OF 'beaconlaw9.PrintFeeds'. -/
def printFeedsUptoCard : Claim7 := { stood := { row := printFeedsUptoRow, standIns := [], harness := (true, "50757ef8d6c9d982b3a6a9eb6d12afa88677eeb3a913b4f7090b2a4c06f530f1"), looks := true }, kinds := [], alts := [], laidByText := true, laidKinds := [.data, .pinned], laidTests := true, laidLooks := .later }
def PrintFeedsUptoCardSaid : Prop := Claim7.holds Tryz.pinned (.plain (OpenSpec.upto printFeedsSpec)) printFeedsUptoCard

/-- THE SECOND FORM's CARD OF 'beaconlaw9.PrintMany'. -/
def printManyUptoCard : Claim7 := { stood := { row := printManyUptoRow, standIns := [], harness := (true, "50757ef8d6c9d982b3a6a9eb6d12afa88677eeb3a913b4f7090b2a4c06f530f1"), looks := true }, kinds := [], alts := [], laidByText := true, laidKinds := [.data, .pinned], laidTests := true, laidLooks := .later }
def PrintManyUptoCardSaid : Prop := Claim7.holds Tryz.pinned (.plain (OpenSpec.upto printManySpec)) printManyUptoCard

/-- THE SECOND FORM's CARD OF 'beaconlaw10.CursorKeeps'. -/
def cursorKeepsUptoCard : Claim7 := { stood := { row := cursorKeepsUptoRow, standIns := [], harness := (true, "50757ef8d6c9d982b3a6a9eb6d12afa88677eeb3a913b4f7090b2a4c06f530f1"), looks := true }, kinds := [], alts := [], laidByText := true, laidKinds := [.data, .pinned], laidTests := true, laidLooks := .later }
def CursorKeepsUptoCardSaid : Prop := Claim7.holds Tryz.pinned (.plain (OpenSpec.upto cursorKeepsSpec)) cursorKeepsUptoCard
end Rows
end Go.Proofs.YtgjpojaegjdjcaaGreatDoor
