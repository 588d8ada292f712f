/-
  DERIVED. GIVEN WITH THE SEED: THE CARDS: each row of YtgdfiiikbnpagaaGreatDoorRows.lean that lists a variable, with what it lists TIED to the program's text (the seventh form; the later family's looks); each row that meets fmt, with fmt's text TOLD by the authors' own Lean function (tested against real Go, not proved from fmt's source: count such statements apart). THE CARD IS WHAT COUNTS. Prove the row's statement (the work); the ties are given (YtgdfiiikbnpagaaGreatDoorTie.lean); close each card by the builder's one call (the guide's Derived/Test/ToyasCard.lean, 'card_holds'). Laid BY PROGRAM, IN A SANDBOX (cutbox-door.mjs). By AI agents, Wed Nov 11 2026. No macro, syntax, notation, axiom, sorry.
-/
import Derived.Test.YtgdfiiikbnpagaaGreatDoorRows
import GoSem.ClaimSeven
namespace Go.Proofs.YtgdfiiikbnpagaaGreatDoor
namespace Rows

/-- THE TIED CARD OF 'beaconlaw11.EditErase'. -/
def editEraseCard : Claim7 := { stood := { row := editEraseRow, standIns := [], harness := (true, "200f900849f07d25d5d4ed19e39291cf6e9730de77ccf57b013c544b77f29583"), looks := true }, kinds := [], alts := [], laidByText := true, laidKinds := [.data, .pinned], laidTests := true, laidLooks := .later }
def EditEraseCardSaid : Prop := Claim7.holds Tryz.pinned (.plain (OpenSpec.ofChange editEraseSpec)) editEraseCard

/-- THE TIED CARD OF 'beaconlaw11.EditCells'. -/
def editCellsCard : Claim7 := { stood := { row := editCellsRow, standIns := [], harness := (true, "200f900849f07d25d5d4ed19e39291cf6e9730de77ccf57b013c544b77f29583"), looks := true }, kinds := [], alts := [], laidByText := true, laidKinds := [.data, .pinned], laidTests := true, laidLooks := .later }
def EditCellsCardSaid : Prop := Claim7.holds Tryz.pinned (.plain (OpenSpec.ofChange editCellsSpec)) editCellsCard

/-- THE TIED CARD OF 'beaconlaw11.EditRows'. -/
def editRowsCard : Claim7 := { stood := { row := editRowsRow, standIns := [], harness := (true, "200f900849f07d25d5d4ed19e39291cf6e9730de77ccf57b013c544b77f29583"), looks := true }, kinds := [], alts := [], laidByText := true, laidKinds := [.data, .pinned], laidTests := true, laidLooks := .later }
def EditRowsCardSaid : Prop := Claim7.holds Tryz.pinned (.plain (OpenSpec.ofChange editRowsSpec)) editRowsCard

/-- THE TIED CARD OF 'beaconlaw11.EditScroll'. -/
def editScrollCard : Claim7 := { stood := { row := editScrollRow, standIns := [], harness := (true, "200f900849f07d25d5d4ed19e39291cf6e9730de77ccf57b013c544b77f29583"), looks := true }, kinds := [], alts := [], laidByText := true, laidKinds := [.data, .pinned], laidTests := true, laidLooks := .later }
def EditScrollCardSaid : Prop := Claim7.holds Tryz.pinned (.plain (OpenSpec.ofChange editScrollSpec)) editScrollCard

/-- THE TIED CARD OF 'beaconlaw11.EditBeside'. -/
def editBesideCard : Claim7 := { stood := { row := editBesideRow, standIns := [], harness := (true, "200f900849f07d25d5d4ed19e39291cf6e9730de77ccf57b013c544b77f29583"), looks := true }, kinds := [], alts := [], laidByText := true, laidKinds := [.data, .pinned], laidTests := true, laidLooks := .later }
def EditBesideCardSaid : Prop := Claim7.holds Tryz.pinned (.plain (OpenSpec.ofChange editBesideSpec)) editBesideCard

/-- THE TIED CARD OF 'beaconlaw11.EditBigJ'. -/
def editBigJCard : Claim7 := { stood := { row := editBigJRow, standIns := [], harness := (true, "200f900849f07d25d5d4ed19e39291cf6e9730de77ccf57b013c544b77f29583"), looks := true }, kinds := [], alts := [], laidByText := true, laidKinds := [.data, .pinned], laidTests := true, laidLooks := .later }
def EditBigJCardSaid : Prop := Claim7.holds Tryz.pinned (.plain (OpenSpec.ofChange editBigJSpec)) editBigJCard

/-- THE TIED CARD OF 'beaconlaw11.EditBigK'. -/
def editBigKCard : Claim7 := { stood := { row := editBigKRow, standIns := [], harness := (true, "200f900849f07d25d5d4ed19e39291cf6e9730de77ccf57b013c544b77f29583"), looks := true }, kinds := [], alts := [], laidByText := true, laidKinds := [.data, .pinned], laidTests := true, laidLooks := .later }
def EditBigKCardSaid : Prop := Claim7.holds Tryz.pinned (.plain (OpenSpec.ofChange editBigKSpec)) editBigKCard

/-- THE TIED CARD OF 'beaconlaw11.EditBigX'. -/
def editBigXCard : Claim7 := { stood := { row := editBigXRow, standIns := [], harness := (true, "200f900849f07d25d5d4ed19e39291cf6e9730de77ccf57b013c544b77f29583"), looks := true }, kinds := [], alts := [], laidByText := true, laidKinds := [.data, .pinned], laidTests := true, laidLooks := .later }
def EditBigXCardSaid : Prop := Claim7.holds Tryz.pinned (.plain (OpenSpec.ofChange editBigXSpec)) editBigXCard

/-- THE TIED CARD OF 'beaconlaw11.EditBigP'. -/
def editBigPCard : Claim7 := { stood := { row := editBigPRow, standIns := [], harness := (true, "200f900849f07d25d5d4ed19e39291cf6e9730de77ccf57b013c544b77f29583"), looks := true }, kinds := [], alts := [], laidByText := true, laidKinds := [.data, .pinned], laidTests := true, laidLooks := .later }
def EditBigPCardSaid : Prop := Claim7.holds Tryz.pinned (.plain (OpenSpec.ofChange editBigPSpec)) editBigPCard

/-- THE TIED CARD OF 'beaconlaw11.EditAt'. -/
def editAtCard : Claim7 := { stood := { row := editAtRow, standIns := [], harness := (true, "200f900849f07d25d5d4ed19e39291cf6e9730de77ccf57b013c544b77f29583"), looks := true }, kinds := [], alts := [], laidByText := true, laidKinds := [.data, .pinned], laidTests := true, laidLooks := .later }
def EditAtCardSaid : Prop := Claim7.holds Tryz.pinned (.plain (OpenSpec.ofChange editAtSpec)) editAtCard

/-- THE TIED CARD OF 'beaconlaw11.EditBigL'. -/
def editBigLCard : Claim7 := { stood := { row := editBigLRow, standIns := [], harness := (true, "200f900849f07d25d5d4ed19e39291cf6e9730de77ccf57b013c544b77f29583"), looks := true }, kinds := [], alts := [], laidByText := true, laidKinds := [.data, .pinned], laidTests := true, laidLooks := .later }
def EditBigLCardSaid : Prop := Claim7.holds Tryz.pinned (.plain (OpenSpec.ofChange editBigLSpec)) editBigLCard

/-- THE TIED CARD OF 'beaconlaw11.EditBigM'. -/
def editBigMCard : Claim7 := { stood := { row := editBigMRow, standIns := [], harness := (true, "200f900849f07d25d5d4ed19e39291cf6e9730de77ccf57b013c544b77f29583"), looks := true }, kinds := [], alts := [], laidByText := true, laidKinds := [.data, .pinned], laidTests := true, laidLooks := .later }
def EditBigMCardSaid : Prop := Claim7.holds Tryz.pinned (.plain (OpenSpec.ofChange editBigMSpec)) editBigMCard

/-- THE TIED CARD OF 'beaconlaw11.EditBigS'. -/
def editBigSCard : Claim7 := { stood := { row := editBigSRow, standIns := [], harness := (true, "200f900849f07d25d5d4ed19e39291cf6e9730de77ccf57b013c544b77f29583"), looks := true }, kinds := [], alts := [], laidByText := true, laidKinds := [.data, .pinned], laidTests := true, laidLooks := .later }
def EditBigSCardSaid : Prop := Claim7.holds Tryz.pinned (.plain (OpenSpec.ofChange editBigSSpec)) editBigSCard

/-- THE TIED CARD OF 'beaconlaw11.EditBigT'. -/
def editBigTCard : Claim7 := { stood := { row := editBigTRow, standIns := [], harness := (true, "200f900849f07d25d5d4ed19e39291cf6e9730de77ccf57b013c544b77f29583"), looks := true }, kinds := [], alts := [], laidByText := true, laidKinds := [.data, .pinned], laidTests := true, laidLooks := .later }
def EditBigTCardSaid : Prop := Claim7.holds Tryz.pinned (.plain (OpenSpec.ofChange editBigTSpec)) editBigTCard

/-- THE SECOND FORM's CARD OF 'beaconlaw11.EditErase'. -/
def editEraseUptoCard : Claim7 := { stood := { row := editEraseUptoRow, standIns := [], harness := (true, "200f900849f07d25d5d4ed19e39291cf6e9730de77ccf57b013c544b77f29583"), looks := true }, kinds := [], alts := [], laidByText := true, laidKinds := [.data, .pinned], laidTests := true, laidLooks := .later }
def EditEraseUptoCardSaid : Prop := Claim7.holds Tryz.pinned (.plain (OpenSpec.upto editEraseSpec)) editEraseUptoCard

/-- THE SECOND FORM's CARD OF 'beaconlaw11.EditCells'. -/
def editCellsUptoCard : Claim7 := { stood := { row := editCellsUptoRow, standIns := [], harness := (true, "200f900849f07d25d5d4ed19e39291cf6e9730de77ccf57b013c544b77f29583"), looks := true }, kinds := [], alts := [], laidByText := true, laidKinds := [.data, .pinned], laidTests := true, laidLooks := .later }
def EditCellsUptoCardSaid : Prop := Claim7.holds Tryz.pinned (.plain (OpenSpec.upto editCellsSpec)) editCellsUptoCard

/-- THE SECOND FORM's CARD OF 'beaconlaw11.EditRows'. -/
def editRowsUptoCard : Claim7 := { stood := { row := editRowsUptoRow, standIns := [], harness := (true, "200f900849f07d25d5d4ed19e39291cf6e9730de77ccf57b013c544b77f29583"), looks := true }, kinds := [], alts := [], laidByText := true, laidKinds := [.data, .pinned], laidTests := true, laidLooks := .later }
def EditRowsUptoCardSaid : Prop := Claim7.holds Tryz.pinned (.plain (OpenSpec.upto editRowsSpec)) editRowsUptoCard

/-- THE SECOND FORM's CARD OF 'beaconlaw11.EditScroll'. -/
def editScrollUptoCard : Claim7 := { stood := { row := editScrollUptoRow, standIns := [], harness := (true, "200f900849f07d25d5d4ed19e39291cf6e9730de77ccf57b013c544b77f29583"), looks := true }, kinds := [], alts := [], laidByText := true, laidKinds := [.data, .pinned], laidTests := true, laidLooks := .later }
def EditScrollUptoCardSaid : Prop := Claim7.holds Tryz.pinned (.plain (OpenSpec.upto editScrollSpec)) editScrollUptoCard

/-- THE SECOND FORM's CARD OF 'beaconlaw11.EditBeside'. -/
def editBesideUptoCard : Claim7 := { stood := { row := editBesideUptoRow, standIns := [], harness := (true, "200f900849f07d25d5d4ed19e39291cf6e9730de77ccf57b013c544b77f29583"), looks := true }, kinds := [], alts := [], laidByText := true, laidKinds := [.data, .pinned], laidTests := true, laidLooks := .later }
def EditBesideUptoCardSaid : Prop := Claim7.holds Tryz.pinned (.plain (OpenSpec.upto editBesideSpec)) editBesideUptoCard

/-- THE SECOND FORM's CARD OF 'beaconlaw11.EditBigJ'. -/
def editBigJUptoCard : Claim7 := { stood := { row := editBigJUptoRow, standIns := [], harness := (true, "200f900849f07d25d5d4ed19e39291cf6e9730de77ccf57b013c544b77f29583"), looks := true }, kinds := [], alts := [], laidByText := true, laidKinds := [.data, .pinned], laidTests := true, laidLooks := .later }
def EditBigJUptoCardSaid : Prop := Claim7.holds Tryz.pinned (.plain (OpenSpec.upto editBigJSpec)) editBigJUptoCard

/-- THE SECOND FORM's CARD OF 'beaconlaw11.EditBigK'. -/
def editBigKUptoCard : Claim7 := { stood := { row := editBigKUptoRow, standIns := [], harness := (true, "200f900849f07d25d5d4ed19e39291cf6e9730de77ccf57b013c544b77f29583"), looks := true }, kinds := [], alts := [], laidByText := true, laidKinds := [.data, .pinned], laidTests := true, laidLooks := .later }
def EditBigKUptoCardSaid : Prop := Claim7.holds Tryz.pinned (.plain (OpenSpec.upto editBigKSpec)) editBigKUptoCard

/-- THE SECOND FORM's CARD OF 'beaconlaw11.EditBigX'. -/
def editBigXUptoCard : Claim7 := { stood := { row := editBigXUptoRow, standIns := [], harness := (true, "200f900849f07d25d5d4ed19e39291cf6e9730de77ccf57b013c544b77f29583"), looks := true }, kinds := [], alts := [], laidByText := true, laidKinds := [.data, .pinned], laidTests := true, laidLooks := .later }
def EditBigXUptoCardSaid : Prop := Claim7.holds Tryz.pinned (.plain (OpenSpec.upto editBigXSpec)) editBigXUptoCard

/-- THE SECOND FORM's CARD OF 'beaconlaw11.EditBigP'. -/
def editBigPUptoCard : Claim7 := { stood := { row := editBigPUptoRow, standIns := [], harness := (true, "200f900849f07d25d5d4ed19e39291cf6e9730de77ccf57b013c544b77f29583"), looks := true }, kinds := [], alts := [], laidByText := true, laidKinds := [.data, .pinned], laidTests := true, laidLooks := .later }
def EditBigPUptoCardSaid : Prop := Claim7.holds Tryz.pinned (.plain (OpenSpec.upto editBigPSpec)) editBigPUptoCard

/-- THE SECOND FORM's CARD OF 'beaconlaw11.EditAt'. -/
def editAtUptoCard : Claim7 := { stood := { row := editAtUptoRow, standIns := [], harness := (true, "200f900849f07d25d5d4ed19e39291cf6e9730de77ccf57b013c544b77f29583"), looks := true }, kinds := [], alts := [], laidByText := true, laidKinds := [.data, .pinned], laidTests := true, laidLooks := .later }
def EditAtUptoCardSaid : Prop := Claim7.holds Tryz.pinned (.plain (OpenSpec.upto editAtSpec)) editAtUptoCard

/-- THE SECOND FORM's CARD OF 'beaconlaw11.EditBigL'. -/
def editBigLUptoCard : Claim7 := { stood := { row := editBigLUptoRow, standIns := [], harness := (true, "200f900849f07d25d5d4ed19e39291cf6e9730de77ccf57b013c544b77f29583"), looks := true }, kinds := [], alts := [], laidByText := true, laidKinds := [.data, .pinned], laidTests := true, laidLooks := .later }
def EditBigLUptoCardSaid : Prop := Claim7.holds Tryz.pinned (.plain (OpenSpec.upto editBigLSpec)) editBigLUptoCard

/-- THE SECOND FORM's CARD OF 'beaconlaw11.EditBigM'. -/
def editBigMUptoCard : Claim7 := { stood := { row := editBigMUptoRow, standIns := [], harness := (true, "200f900849f07d25d5d4ed19e39291cf6e9730de77ccf57b013c544b77f29583"), looks := true }, kinds := [], alts := [], laidByText := true, laidKinds := [.data, .pinned], laidTests := true, laidLooks := .later }
def EditBigMUptoCardSaid : Prop := Claim7.holds Tryz.pinned (.plain (OpenSpec.upto editBigMSpec)) editBigMUptoCard

/-- THE SECOND FORM's CARD OF 'beaconlaw11.EditBigS'. -/
def editBigSUptoCard : Claim7 := { stood := { row := editBigSUptoRow, standIns := [], harness := (true, "200f900849f07d25d5d4ed19e39291cf6e9730de77ccf57b013c544b77f29583"), looks := true }, kinds := [], alts := [], laidByText := true, laidKinds := [.data, .pinned], laidTests := true, laidLooks := .later }
def EditBigSUptoCardSaid : Prop := Claim7.holds Tryz.pinned (.plain (OpenSpec.upto editBigSSpec)) editBigSUptoCard

/-- THE SECOND FORM's CARD OF 'beaconlaw11.EditBigT'. -/
def editBigTUptoCard : Claim7 := { stood := { row := editBigTUptoRow, standIns := [], harness := (true, "200f900849f07d25d5d4ed19e39291cf6e9730de77ccf57b013c544b77f29583"), looks := true }, kinds := [], alts := [], laidByText := true, laidKinds := [.data, .pinned], laidTests := true, laidLooks := .later }
def EditBigTUptoCardSaid : Prop := Claim7.holds Tryz.pinned (.plain (OpenSpec.upto editBigTSpec)) editBigTUptoCard
end Rows
end Go.Proofs.YtgdfiiikbnpagaaGreatDoor
