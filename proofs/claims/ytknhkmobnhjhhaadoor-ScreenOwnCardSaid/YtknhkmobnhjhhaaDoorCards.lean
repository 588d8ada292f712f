/-
  DERIVED. GIVEN WITH THE SEED: THE CARDS: each row of YtknhkmobnhjhhaaDoorRows.lean that lists a variable, with what it lists TIED to the program's text (the seventh form; the later family's looks); each row that meets fmt, with fmt's text TOLD by the authors' own Lean function (tested against real Go, not proved from fmt's source: count such statements apart). THE CARD IS WHAT COUNTS. Prove the row's statement (the work); the ties are given (YtknhkmobnhjhhaaDoorTie.lean); close each card by the builder's one call (the guide's Derived/Test/ToyasCard.lean, 'card_holds'). Laid BY PROGRAM, IN A SANDBOX (cutbox-door.mjs). By AI agents, Wed Nov 11 2026. No macro, syntax, notation, axiom, sorry.
-/
import Derived.Test.YtknhkmobnhjhhaaDoorRows
import GoSem.ClaimSeven
namespace Go.Proofs.YtknhkmobnhjhhaaDoor
namespace Rows

/-- THE TIED CARD OF 'beaconlaw8.ScreenOwn'. -/
def screenOwnCard : Claim7 := { stood := { row := screenOwnRow, standIns := [], harness := (true, "1b7863d21727b2d33405dcaa6ed388ef74c8307fcad7c38fbdd967af262beb7d"), looks := true }, kinds := [], alts := [], laidByText := true, laidKinds := [.data, .pinned], laidTests := true, laidLooks := .later }
def ScreenOwnCardSaid : Prop := Claim7.holds Tryd.pinned (.plain (OpenSpec.ofChange screenOwnSpec)) screenOwnCard

/-- THE SECOND FORM's CARD OF 'beaconlaw8.ScreenOwn'. -/
def screenOwnUptoCard : Claim7 := { stood := { row := screenOwnUptoRow, standIns := [], harness := (true, "1b7863d21727b2d33405dcaa6ed388ef74c8307fcad7c38fbdd967af262beb7d"), looks := true }, kinds := [], alts := [], laidByText := true, laidKinds := [.data, .pinned], laidTests := true, laidLooks := .later }
def ScreenOwnUptoCardSaid : Prop := Claim7.holds Tryd.pinned (.plain (OpenSpec.upto screenOwnSpec)) screenOwnUptoCard
end Rows
end Go.Proofs.YtknhkmobnhjhhaaDoor
