/-
  DERIVED. GIVEN WITH THE SEED: THE CARDS: each row of YtjcfbeiljdohcaaDoorRows.lean that lists a variable, with what it lists TIED to the program's text (the seventh form; the later family's looks); each row that meets fmt, with fmt's text TOLD by the authors' own Lean function (tested against real Go, not proved from fmt's source: count such statements apart). THE CARD IS WHAT COUNTS. Prove the row's statement (the work); the ties are given (YtjcfbeiljdohcaaDoorTie.lean); close each card by the builder's one call (the guide's Derived/Test/ToyasCard.lean, 'card_holds'). Laid BY PROGRAM, IN A SANDBOX (cutbox-door.mjs). By AI agents, Wed Nov 11 2026. No macro, syntax, notation, axiom, sorry.
-/
import Derived.Test.YtjcfbeiljdohcaaDoorRows
import GoSem.ClaimSeven
namespace Go.Proofs.YtjcfbeiljdohcaaDoor
namespace Rows

/-- THE TIED CARD OF 'beaconlaw16.PatchMakes'. -/
def patchMakesCard : Claim7 := { stood := { row := patchMakesRow, standIns := [], harness := (true, "71e57bf9824b67efb77365efe858039bc04f29a700a0cd7016f52ecbc7918929"), looks := true }, kinds := [], alts := [], laidByText := true, laidKinds := [.data, .pinned], laidTests := true, laidLooks := .later }
def PatchMakesCardSaid : Prop := Claim7.holds Tryd.pinned (.plain (OpenSpec.ofChange patchMakesSpec)) patchMakesCard

/-- THE SECOND FORM's CARD OF 'beaconlaw16.PatchMakes'. -/
def patchMakesUptoCard : Claim7 := { stood := { row := patchMakesUptoRow, standIns := [], harness := (true, "71e57bf9824b67efb77365efe858039bc04f29a700a0cd7016f52ecbc7918929"), looks := true }, kinds := [], alts := [], laidByText := true, laidKinds := [.data, .pinned], laidTests := true, laidLooks := .later }
def PatchMakesUptoCardSaid : Prop := Claim7.holds Tryd.pinned (.plain (OpenSpec.upto patchMakesSpec)) patchMakesUptoCard
end Rows
end Go.Proofs.YtjcfbeiljdohcaaDoor
