/-
  DERIVED. GIVEN WITH THE SEED: THE CARDS: each row of YtgjpojaegjdjcaaDoorRows.lean that lists a variable, with what it lists TIED to the program's text (the seventh form; the later family's looks); each row that meets fmt, with fmt's text TOLD by the authors' own Lean function (tested against real Go, not proved from fmt's source: count such statements apart). THE CARD IS WHAT COUNTS. Prove the row's statement (the work); the ties are given (YtgjpojaegjdjcaaDoorTie.lean); close each card by the builder's one call (the guide's Derived/Test/ToyasCard.lean, 'card_holds'). Laid BY PROGRAM, IN A SANDBOX (cutbox-door.mjs). By AI agents, Wed Nov 11 2026. No macro, syntax, notation, axiom, sorry.
-/
import Derived.Test.YtgjpojaegjdjcaaDoorRows
import GoSem.ClaimSeven
namespace Go.Proofs.YtgjpojaegjdjcaaDoor
namespace Rows

/-- THE TIED CARD OF 'beaconlaw10.CursorUp'. -/
def cursorUpCard : Claim7 := { stood := { row := cursorUpRow, standIns := [], harness := (true, "4be9fc200e8d1352688c782a4825d5267c67669b203f83e1cea118b036db6a15"), looks := true }, kinds := [], alts := [], laidByText := true, laidKinds := [.data, .pinned], laidTests := true, laidLooks := .later }
def CursorUpCardSaid : Prop := Claim7.holds Tryd.pinned (.plain (OpenSpec.ofChange cursorUpSpec)) cursorUpCard

/-- THE TIED CARD OF 'beaconlaw10.CursorDown'. -/
def cursorDownCard : Claim7 := { stood := { row := cursorDownRow, standIns := [], harness := (true, "4be9fc200e8d1352688c782a4825d5267c67669b203f83e1cea118b036db6a15"), looks := true }, kinds := [], alts := [], laidByText := true, laidKinds := [.data, .pinned], laidTests := true, laidLooks := .later }
def CursorDownCardSaid : Prop := Claim7.holds Tryd.pinned (.plain (OpenSpec.ofChange cursorDownSpec)) cursorDownCard

/-- THE TIED CARD OF 'beaconlaw10.CursorSide'. -/
def cursorSideCard : Claim7 := { stood := { row := cursorSideRow, standIns := [], harness := (true, "4be9fc200e8d1352688c782a4825d5267c67669b203f83e1cea118b036db6a15"), looks := true }, kinds := [], alts := [], laidByText := true, laidKinds := [.data, .pinned], laidTests := true, laidLooks := .later }
def CursorSideCardSaid : Prop := Claim7.holds Tryd.pinned (.plain (OpenSpec.ofChange cursorSideSpec)) cursorSideCard

/-- THE TIED CARD OF 'beaconlaw10.CursorTo'. -/
def cursorToCard : Claim7 := { stood := { row := cursorToRow, standIns := [], harness := (true, "4be9fc200e8d1352688c782a4825d5267c67669b203f83e1cea118b036db6a15"), looks := true }, kinds := [], alts := [], laidByText := true, laidKinds := [.data, .pinned], laidTests := true, laidLooks := .later }
def CursorToCardSaid : Prop := Claim7.holds Tryd.pinned (.plain (OpenSpec.ofChange cursorToSpec)) cursorToCard

/-- THE TIED CARD OF 'beaconlaw10.CursorTab'. -/
def cursorTabCard : Claim7 := { stood := { row := cursorTabRow, standIns := [], harness := (true, "4be9fc200e8d1352688c782a4825d5267c67669b203f83e1cea118b036db6a15"), looks := true }, kinds := [], alts := [], laidByText := true, laidKinds := [.data, .pinned], laidTests := true, laidLooks := .later }
def CursorTabCardSaid : Prop := Claim7.holds Tryd.pinned (.plain (OpenSpec.ofChange cursorTabSpec)) cursorTabCard

/-- THE TIED CARD OF 'beaconlaw10.CursorBigA'. -/
def cursorBigACard : Claim7 := { stood := { row := cursorBigARow, standIns := [], harness := (true, "4be9fc200e8d1352688c782a4825d5267c67669b203f83e1cea118b036db6a15"), looks := true }, kinds := [], alts := [], laidByText := true, laidKinds := [.data, .pinned], laidTests := true, laidLooks := .later }
def CursorBigACardSaid : Prop := Claim7.holds Tryd.pinned (.plain (OpenSpec.ofChange cursorBigASpec)) cursorBigACard

/-- THE TIED CARD OF 'beaconlaw10.CursorBigB'. -/
def cursorBigBCard : Claim7 := { stood := { row := cursorBigBRow, standIns := [], harness := (true, "4be9fc200e8d1352688c782a4825d5267c67669b203f83e1cea118b036db6a15"), looks := true }, kinds := [], alts := [], laidByText := true, laidKinds := [.data, .pinned], laidTests := true, laidLooks := .later }
def CursorBigBCardSaid : Prop := Claim7.holds Tryd.pinned (.plain (OpenSpec.ofChange cursorBigBSpec)) cursorBigBCard

/-- THE TIED CARD OF 'beaconlaw10.CursorBigC'. -/
def cursorBigCCard : Claim7 := { stood := { row := cursorBigCRow, standIns := [], harness := (true, "4be9fc200e8d1352688c782a4825d5267c67669b203f83e1cea118b036db6a15"), looks := true }, kinds := [], alts := [], laidByText := true, laidKinds := [.data, .pinned], laidTests := true, laidLooks := .later }
def CursorBigCCardSaid : Prop := Claim7.holds Tryd.pinned (.plain (OpenSpec.ofChange cursorBigCSpec)) cursorBigCCard

/-- THE SECOND FORM's CARD OF 'beaconlaw10.CursorUp'. -/
def cursorUpUptoCard : Claim7 := { stood := { row := cursorUpUptoRow, standIns := [], harness := (true, "4be9fc200e8d1352688c782a4825d5267c67669b203f83e1cea118b036db6a15"), looks := true }, kinds := [], alts := [], laidByText := true, laidKinds := [.data, .pinned], laidTests := true, laidLooks := .later }
def CursorUpUptoCardSaid : Prop := Claim7.holds Tryd.pinned (.plain (OpenSpec.upto cursorUpSpec)) cursorUpUptoCard

/-- THE SECOND FORM's CARD OF 'beaconlaw10.CursorDown'. -/
def cursorDownUptoCard : Claim7 := { stood := { row := cursorDownUptoRow, standIns := [], harness := (true, "4be9fc200e8d1352688c782a4825d5267c67669b203f83e1cea118b036db6a15"), looks := true }, kinds := [], alts := [], laidByText := true, laidKinds := [.data, .pinned], laidTests := true, laidLooks := .later }
def CursorDownUptoCardSaid : Prop := Claim7.holds Tryd.pinned (.plain (OpenSpec.upto cursorDownSpec)) cursorDownUptoCard

/-- THE SECOND FORM's CARD OF 'beaconlaw10.CursorSide'. -/
def cursorSideUptoCard : Claim7 := { stood := { row := cursorSideUptoRow, standIns := [], harness := (true, "4be9fc200e8d1352688c782a4825d5267c67669b203f83e1cea118b036db6a15"), looks := true }, kinds := [], alts := [], laidByText := true, laidKinds := [.data, .pinned], laidTests := true, laidLooks := .later }
def CursorSideUptoCardSaid : Prop := Claim7.holds Tryd.pinned (.plain (OpenSpec.upto cursorSideSpec)) cursorSideUptoCard

/-- THE SECOND FORM's CARD OF 'beaconlaw10.CursorTo'. -/
def cursorToUptoCard : Claim7 := { stood := { row := cursorToUptoRow, standIns := [], harness := (true, "4be9fc200e8d1352688c782a4825d5267c67669b203f83e1cea118b036db6a15"), looks := true }, kinds := [], alts := [], laidByText := true, laidKinds := [.data, .pinned], laidTests := true, laidLooks := .later }
def CursorToUptoCardSaid : Prop := Claim7.holds Tryd.pinned (.plain (OpenSpec.upto cursorToSpec)) cursorToUptoCard

/-- THE SECOND FORM's CARD OF 'beaconlaw10.CursorTab'. -/
def cursorTabUptoCard : Claim7 := { stood := { row := cursorTabUptoRow, standIns := [], harness := (true, "4be9fc200e8d1352688c782a4825d5267c67669b203f83e1cea118b036db6a15"), looks := true }, kinds := [], alts := [], laidByText := true, laidKinds := [.data, .pinned], laidTests := true, laidLooks := .later }
def CursorTabUptoCardSaid : Prop := Claim7.holds Tryd.pinned (.plain (OpenSpec.upto cursorTabSpec)) cursorTabUptoCard

/-- THE SECOND FORM's CARD OF 'beaconlaw10.CursorBigA'. -/
def cursorBigAUptoCard : Claim7 := { stood := { row := cursorBigAUptoRow, standIns := [], harness := (true, "4be9fc200e8d1352688c782a4825d5267c67669b203f83e1cea118b036db6a15"), looks := true }, kinds := [], alts := [], laidByText := true, laidKinds := [.data, .pinned], laidTests := true, laidLooks := .later }
def CursorBigAUptoCardSaid : Prop := Claim7.holds Tryd.pinned (.plain (OpenSpec.upto cursorBigASpec)) cursorBigAUptoCard

/-- THE SECOND FORM's CARD OF 'beaconlaw10.CursorBigB'. -/
def cursorBigBUptoCard : Claim7 := { stood := { row := cursorBigBUptoRow, standIns := [], harness := (true, "4be9fc200e8d1352688c782a4825d5267c67669b203f83e1cea118b036db6a15"), looks := true }, kinds := [], alts := [], laidByText := true, laidKinds := [.data, .pinned], laidTests := true, laidLooks := .later }
def CursorBigBUptoCardSaid : Prop := Claim7.holds Tryd.pinned (.plain (OpenSpec.upto cursorBigBSpec)) cursorBigBUptoCard

/-- THE SECOND FORM's CARD OF 'beaconlaw10.CursorBigC'. -/
def cursorBigCUptoCard : Claim7 := { stood := { row := cursorBigCUptoRow, standIns := [], harness := (true, "4be9fc200e8d1352688c782a4825d5267c67669b203f83e1cea118b036db6a15"), looks := true }, kinds := [], alts := [], laidByText := true, laidKinds := [.data, .pinned], laidTests := true, laidLooks := .later }
def CursorBigCUptoCardSaid : Prop := Claim7.holds Tryd.pinned (.plain (OpenSpec.upto cursorBigCSpec)) cursorBigCUptoCard
end Rows
end Go.Proofs.YtgjpojaegjdjcaaDoor
