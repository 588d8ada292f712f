/-
  DERIVED. GIVEN WITH THE SEED: THE CARDS: each row of YthoakfnilacmnaaDoorRows.lean that lists a variable, with what it lists TIED to the program's text (the seventh form; the later family's looks); each row that meets fmt, with fmt's text TOLD by the authors' own Lean function (tested against real Go, not proved from fmt's source: count such statements apart). THE CARD IS WHAT COUNTS. Prove the row's statement (the work); the ties are given (YthoakfnilacmnaaDoorTie.lean); close each card by the builder's one call (the guide's Derived/Test/ToyasCard.lean, 'card_holds'). Laid BY PROGRAM, IN A SANDBOX (cutbox-door.mjs). By AI agents, Wed Nov 11 2026. No macro, syntax, notation, axiom, sorry.
-/
import Derived.Test.YthoakfnilacmnaaDoorRows
import GoSem.ClaimSeven
namespace Go.Proofs.YthoakfnilacmnaaDoor
namespace Rows

/-- THE TIED CARD OF 'beaconlaw1.UtfBytes'. -/
def utfBytesCard : Claim7 := { stood := { row := utfBytesRow, standIns := [], harness := (true, "d4e0f3faf6679204ce97673057e4c4dd3a6214b6d845a4f0305e3f1fb4420868"), looks := true }, kinds := [], alts := [], laidByText := true, laidKinds := [.data, .pinned], laidTests := true, laidLooks := .later }
def UtfBytesCardSaid : Prop := Claim7.holds Tryd.pinned (.plain (OpenSpec.ofChange utfBytesSpec)) utfBytesCard

/-- THE TIED CARD OF 'beaconlaw1.UtfAll'. -/
def utfAllCard : Claim7 := { stood := { row := utfAllRow, standIns := [], harness := (true, "d4e0f3faf6679204ce97673057e4c4dd3a6214b6d845a4f0305e3f1fb4420868"), looks := true }, kinds := [], alts := [], laidByText := true, laidKinds := [.data, .pinned], laidTests := true, laidLooks := .later }
def UtfAllCardSaid : Prop := Claim7.holds Tryd.pinned (.plain (OpenSpec.ofChange utfAllSpec)) utfAllCard

/-- THE TIED CARD OF 'beaconlaw1.UtfSplits'. -/
def utfSplitsCard : Claim7 := { stood := { row := utfSplitsRow, standIns := [], harness := (true, "d4e0f3faf6679204ce97673057e4c4dd3a6214b6d845a4f0305e3f1fb4420868"), looks := true }, kinds := [], alts := [], laidByText := true, laidKinds := [.data, .pinned], laidTests := true, laidLooks := .later }
def UtfSplitsCardSaid : Prop := Claim7.holds Tryd.pinned (.plain (OpenSpec.ofChange utfSplitsSpec)) utfSplitsCard

/-- THE SECOND FORM's CARD OF 'beaconlaw1.UtfBytes'. -/
def utfBytesUptoCard : Claim7 := { stood := { row := utfBytesUptoRow, standIns := [], harness := (true, "d4e0f3faf6679204ce97673057e4c4dd3a6214b6d845a4f0305e3f1fb4420868"), looks := true }, kinds := [], alts := [], laidByText := true, laidKinds := [.data, .pinned], laidTests := true, laidLooks := .later }
def UtfBytesUptoCardSaid : Prop := Claim7.holds Tryd.pinned (.plain (OpenSpec.upto utfBytesSpec)) utfBytesUptoCard

/-- THE SECOND FORM's CARD OF 'beaconlaw1.UtfAll'. -/
def utfAllUptoCard : Claim7 := { stood := { row := utfAllUptoRow, standIns := [], harness := (true, "d4e0f3faf6679204ce97673057e4c4dd3a6214b6d845a4f0305e3f1fb4420868"), looks := true }, kinds := [], alts := [], laidByText := true, laidKinds := [.data, .pinned], laidTests := true, laidLooks := .later }
def UtfAllUptoCardSaid : Prop := Claim7.holds Tryd.pinned (.plain (OpenSpec.upto utfAllSpec)) utfAllUptoCard

/-- THE SECOND FORM's CARD OF 'beaconlaw1.UtfSplits'. -/
def utfSplitsUptoCard : Claim7 := { stood := { row := utfSplitsUptoRow, standIns := [], harness := (true, "d4e0f3faf6679204ce97673057e4c4dd3a6214b6d845a4f0305e3f1fb4420868"), looks := true }, kinds := [], alts := [], laidByText := true, laidKinds := [.data, .pinned], laidTests := true, laidLooks := .later }
def UtfSplitsUptoCardSaid : Prop := Claim7.holds Tryd.pinned (.plain (OpenSpec.upto utfSplitsSpec)) utfSplitsUptoCard
end Rows
end Go.Proofs.YthoakfnilacmnaaDoor
