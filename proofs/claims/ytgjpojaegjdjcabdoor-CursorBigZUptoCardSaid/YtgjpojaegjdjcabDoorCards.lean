/-
  DERIVED. GIVEN WITH THE SEED: THE CARDS: each row of YtgjpojaegjdjcabDoorRows.lean that lists a variable, with what it lists TIED to the program's text (the seventh form; the later family's looks); each row that meets fmt, with fmt's text TOLD by the authors' own Lean function (tested against real Go, not proved from fmt's source: count such statements apart). THE CARD IS WHAT COUNTS. Prove the row's statement (the work); the ties are given (YtgjpojaegjdjcabDoorTie.lean); close each card by the builder's one call (the guide's Derived/Test/ToyasCard.lean, 'card_holds'). Laid BY PROGRAM, IN A SANDBOX (cutbox-door.mjs). By AI agents, Wed Nov 11 2026. No macro, syntax, notation, axiom, sorry.
-/
import Derived.Test.YtgjpojaegjdjcabDoorRows
import GoSem.ClaimSeven
namespace Go.Proofs.YtgjpojaegjdjcabDoor
namespace Rows

/-- THE TIED CARD OF 'beaconlaw10.CursorBigD'. -/
def cursorBigDCard : Claim7 := { stood := { row := cursorBigDRow, standIns := [], harness := (true, "b90b0d63367473b551558bde707fc32f41ddd8500744144adf24f71f20e4a7e4"), looks := true }, kinds := [], alts := [], laidByText := true, laidKinds := [.data, .pinned], laidTests := true, laidLooks := .later }
def CursorBigDCardSaid : Prop := Claim7.holds Tryd.pinned (.plain (OpenSpec.ofChange cursorBigDSpec)) cursorBigDCard

/-- THE TIED CARD OF 'beaconlaw10.CursorBigE'. -/
def cursorBigECard : Claim7 := { stood := { row := cursorBigERow, standIns := [], harness := (true, "b90b0d63367473b551558bde707fc32f41ddd8500744144adf24f71f20e4a7e4"), looks := true }, kinds := [], alts := [], laidByText := true, laidKinds := [.data, .pinned], laidTests := true, laidLooks := .later }
def CursorBigECardSaid : Prop := Claim7.holds Tryd.pinned (.plain (OpenSpec.ofChange cursorBigESpec)) cursorBigECard

/-- THE TIED CARD OF 'beaconlaw10.CursorBigF'. -/
def cursorBigFCard : Claim7 := { stood := { row := cursorBigFRow, standIns := [], harness := (true, "b90b0d63367473b551558bde707fc32f41ddd8500744144adf24f71f20e4a7e4"), looks := true }, kinds := [], alts := [], laidByText := true, laidKinds := [.data, .pinned], laidTests := true, laidLooks := .later }
def CursorBigFCardSaid : Prop := Claim7.holds Tryd.pinned (.plain (OpenSpec.ofChange cursorBigFSpec)) cursorBigFCard

/-- THE TIED CARD OF 'beaconlaw10.CursorBigG'. -/
def cursorBigGCard : Claim7 := { stood := { row := cursorBigGRow, standIns := [], harness := (true, "b90b0d63367473b551558bde707fc32f41ddd8500744144adf24f71f20e4a7e4"), looks := true }, kinds := [], alts := [], laidByText := true, laidKinds := [.data, .pinned], laidTests := true, laidLooks := .later }
def CursorBigGCardSaid : Prop := Claim7.holds Tryd.pinned (.plain (OpenSpec.ofChange cursorBigGSpec)) cursorBigGCard

/-- THE TIED CARD OF 'beaconlaw10.CursorD'. -/
def cursorDCard : Claim7 := { stood := { row := cursorDRow, standIns := [], harness := (true, "b90b0d63367473b551558bde707fc32f41ddd8500744144adf24f71f20e4a7e4"), looks := true }, kinds := [], alts := [], laidByText := true, laidKinds := [.data, .pinned], laidTests := true, laidLooks := .later }
def CursorDCardSaid : Prop := Claim7.holds Tryd.pinned (.plain (OpenSpec.ofChange cursorDSpec)) cursorDCard

/-- THE TIED CARD OF 'beaconlaw10.CursorBigH'. -/
def cursorBigHCard : Claim7 := { stood := { row := cursorBigHRow, standIns := [], harness := (true, "b90b0d63367473b551558bde707fc32f41ddd8500744144adf24f71f20e4a7e4"), looks := true }, kinds := [], alts := [], laidByText := true, laidKinds := [.data, .pinned], laidTests := true, laidLooks := .later }
def CursorBigHCardSaid : Prop := Claim7.holds Tryd.pinned (.plain (OpenSpec.ofChange cursorBigHSpec)) cursorBigHCard

/-- THE TIED CARD OF 'beaconlaw10.CursorBigI'. -/
def cursorBigICard : Claim7 := { stood := { row := cursorBigIRow, standIns := [], harness := (true, "b90b0d63367473b551558bde707fc32f41ddd8500744144adf24f71f20e4a7e4"), looks := true }, kinds := [], alts := [], laidByText := true, laidKinds := [.data, .pinned], laidTests := true, laidLooks := .later }
def CursorBigICardSaid : Prop := Claim7.holds Tryd.pinned (.plain (OpenSpec.ofChange cursorBigISpec)) cursorBigICard

/-- THE TIED CARD OF 'beaconlaw10.CursorBigZ'. -/
def cursorBigZCard : Claim7 := { stood := { row := cursorBigZRow, standIns := [], harness := (true, "b90b0d63367473b551558bde707fc32f41ddd8500744144adf24f71f20e4a7e4"), looks := true }, kinds := [], alts := [], laidByText := true, laidKinds := [.data, .pinned], laidTests := true, laidLooks := .later }
def CursorBigZCardSaid : Prop := Claim7.holds Tryd.pinned (.plain (OpenSpec.ofChange cursorBigZSpec)) cursorBigZCard

/-- THE TIED CARD OF 'beaconlaw10.CursorWithin'. -/
def cursorWithinCard : Claim7 := { stood := { row := cursorWithinRow, standIns := [], harness := (true, "b90b0d63367473b551558bde707fc32f41ddd8500744144adf24f71f20e4a7e4"), looks := true }, kinds := [], alts := [], laidByText := true, laidKinds := [.data, .pinned], laidTests := true, laidLooks := .later }
def CursorWithinCardSaid : Prop := Claim7.holds Tryd.pinned (.plain (OpenSpec.ofChange cursorWithinSpec)) cursorWithinCard

/-- THE SECOND FORM's CARD OF 'beaconlaw10.CursorBigD'. -/
def cursorBigDUptoCard : Claim7 := { stood := { row := cursorBigDUptoRow, standIns := [], harness := (true, "b90b0d63367473b551558bde707fc32f41ddd8500744144adf24f71f20e4a7e4"), looks := true }, kinds := [], alts := [], laidByText := true, laidKinds := [.data, .pinned], laidTests := true, laidLooks := .later }
def CursorBigDUptoCardSaid : Prop := Claim7.holds Tryd.pinned (.plain (OpenSpec.upto cursorBigDSpec)) cursorBigDUptoCard

/-- THE SECOND FORM's CARD OF 'beaconlaw10.CursorBigE'. -/
def cursorBigEUptoCard : Claim7 := { stood := { row := cursorBigEUptoRow, standIns := [], harness := (true, "b90b0d63367473b551558bde707fc32f41ddd8500744144adf24f71f20e4a7e4"), looks := true }, kinds := [], alts := [], laidByText := true, laidKinds := [.data, .pinned], laidTests := true, laidLooks := .later }
def CursorBigEUptoCardSaid : Prop := Claim7.holds Tryd.pinned (.plain (OpenSpec.upto cursorBigESpec)) cursorBigEUptoCard

/-- THE SECOND FORM's CARD OF 'beaconlaw10.CursorBigF'. -/
def cursorBigFUptoCard : Claim7 := { stood := { row := cursorBigFUptoRow, standIns := [], harness := (true, "b90b0d63367473b551558bde707fc32f41ddd8500744144adf24f71f20e4a7e4"), looks := true }, kinds := [], alts := [], laidByText := true, laidKinds := [.data, .pinned], laidTests := true, laidLooks := .later }
def CursorBigFUptoCardSaid : Prop := Claim7.holds Tryd.pinned (.plain (OpenSpec.upto cursorBigFSpec)) cursorBigFUptoCard

/-- THE SECOND FORM's CARD OF 'beaconlaw10.CursorBigG'. -/
def cursorBigGUptoCard : Claim7 := { stood := { row := cursorBigGUptoRow, standIns := [], harness := (true, "b90b0d63367473b551558bde707fc32f41ddd8500744144adf24f71f20e4a7e4"), looks := true }, kinds := [], alts := [], laidByText := true, laidKinds := [.data, .pinned], laidTests := true, laidLooks := .later }
def CursorBigGUptoCardSaid : Prop := Claim7.holds Tryd.pinned (.plain (OpenSpec.upto cursorBigGSpec)) cursorBigGUptoCard

/-- THE SECOND FORM's CARD OF 'beaconlaw10.CursorD'. -/
def cursorDUptoCard : Claim7 := { stood := { row := cursorDUptoRow, standIns := [], harness := (true, "b90b0d63367473b551558bde707fc32f41ddd8500744144adf24f71f20e4a7e4"), looks := true }, kinds := [], alts := [], laidByText := true, laidKinds := [.data, .pinned], laidTests := true, laidLooks := .later }
def CursorDUptoCardSaid : Prop := Claim7.holds Tryd.pinned (.plain (OpenSpec.upto cursorDSpec)) cursorDUptoCard

/-- THE SECOND FORM's CARD OF 'beaconlaw10.CursorBigH'. -/
def cursorBigHUptoCard : Claim7 := { stood := { row := cursorBigHUptoRow, standIns := [], harness := (true, "b90b0d63367473b551558bde707fc32f41ddd8500744144adf24f71f20e4a7e4"), looks := true }, kinds := [], alts := [], laidByText := true, laidKinds := [.data, .pinned], laidTests := true, laidLooks := .later }
def CursorBigHUptoCardSaid : Prop := Claim7.holds Tryd.pinned (.plain (OpenSpec.upto cursorBigHSpec)) cursorBigHUptoCard

/-- THE SECOND FORM's CARD OF 'beaconlaw10.CursorBigI'. -/
def cursorBigIUptoCard : Claim7 := { stood := { row := cursorBigIUptoRow, standIns := [], harness := (true, "b90b0d63367473b551558bde707fc32f41ddd8500744144adf24f71f20e4a7e4"), looks := true }, kinds := [], alts := [], laidByText := true, laidKinds := [.data, .pinned], laidTests := true, laidLooks := .later }
def CursorBigIUptoCardSaid : Prop := Claim7.holds Tryd.pinned (.plain (OpenSpec.upto cursorBigISpec)) cursorBigIUptoCard

/-- THE SECOND FORM's CARD OF 'beaconlaw10.CursorBigZ'. -/
def cursorBigZUptoCard : Claim7 := { stood := { row := cursorBigZUptoRow, standIns := [], harness := (true, "b90b0d63367473b551558bde707fc32f41ddd8500744144adf24f71f20e4a7e4"), looks := true }, kinds := [], alts := [], laidByText := true, laidKinds := [.data, .pinned], laidTests := true, laidLooks := .later }
def CursorBigZUptoCardSaid : Prop := Claim7.holds Tryd.pinned (.plain (OpenSpec.upto cursorBigZSpec)) cursorBigZUptoCard

/-- THE SECOND FORM's CARD OF 'beaconlaw10.CursorWithin'. -/
def cursorWithinUptoCard : Claim7 := { stood := { row := cursorWithinUptoRow, standIns := [], harness := (true, "b90b0d63367473b551558bde707fc32f41ddd8500744144adf24f71f20e4a7e4"), looks := true }, kinds := [], alts := [], laidByText := true, laidKinds := [.data, .pinned], laidTests := true, laidLooks := .later }
def CursorWithinUptoCardSaid : Prop := Claim7.holds Tryd.pinned (.plain (OpenSpec.upto cursorWithinSpec)) cursorWithinUptoCard
end Rows
end Go.Proofs.YtgjpojaegjdjcabDoor
