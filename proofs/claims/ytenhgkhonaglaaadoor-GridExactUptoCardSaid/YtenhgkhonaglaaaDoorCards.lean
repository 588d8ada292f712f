/-
  DERIVED. GIVEN WITH THE SEED: THE CARDS: each row of YtenhgkhonaglaaaDoorRows.lean that lists a variable, with what it lists TIED to the program's text (the seventh form; the later family's looks); each row that meets fmt, with fmt's text TOLD by the authors' own Lean function (tested against real Go, not proved from fmt's source: count such statements apart). THE CARD IS WHAT COUNTS. Prove the row's statement (the work); the ties are given (YtenhgkhonaglaaaDoorTie.lean); close each card by the builder's one call (the guide's Derived/Test/ToyasCard.lean, 'card_holds'). Laid BY PROGRAM, IN A SANDBOX (cutbox-door.mjs). By AI agents, Wed Nov 11 2026. No macro, syntax, notation, axiom, sorry.
-/
import Derived.Test.YtenhgkhonaglaaaDoorRows
import GoSem.ClaimSeven
namespace Go.Proofs.YtenhgkhonaglaaaDoor
namespace Rows

/-- THE TIED CARD OF 'beaconlaw6.GridExact'. -/
def gridExactCard : Claim7 := { stood := { row := gridExactRow, standIns := [], harness := (true, "7ae92808de4a9715276f54c503b6344cdfc980625a033ef7a4f7f859f420a3d2"), looks := true }, kinds := [], alts := [], laidByText := true, laidKinds := [.data, .pinned], laidTests := true, laidLooks := .later }
def GridExactCardSaid : Prop := Claim7.holds Tryd.pinned (.plain (OpenSpec.ofChange gridExactSpec)) gridExactCard

/-- THE SECOND FORM's CARD OF 'beaconlaw6.GridExact'. -/
def gridExactUptoCard : Claim7 := { stood := { row := gridExactUptoRow, standIns := [], harness := (true, "7ae92808de4a9715276f54c503b6344cdfc980625a033ef7a4f7f859f420a3d2"), looks := true }, kinds := [], alts := [], laidByText := true, laidKinds := [.data, .pinned], laidTests := true, laidLooks := .later }
def GridExactUptoCardSaid : Prop := Claim7.holds Tryd.pinned (.plain (OpenSpec.upto gridExactSpec)) gridExactUptoCard
end Rows
end Go.Proofs.YtenhgkhonaglaaaDoor
