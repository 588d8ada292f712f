/-
  DERIVED. GIVEN WITH THE SEED: THE CARDS: each row of YtjcfbeiljdohcaaGreatDoorRows.lean that lists a variable, with what it lists TIED to the program's text (the seventh form; the later family's looks); each row that meets fmt, with fmt's text TOLD by the authors' own Lean function (tested against real Go, not proved from fmt's source: count such statements apart). THE CARD IS WHAT COUNTS. Prove the row's statement (the work); the ties are given (YtjcfbeiljdohcaaGreatDoorTie.lean); close each card by the builder's one call (the guide's Derived/Test/ToyasCard.lean, 'card_holds'). Laid BY PROGRAM, IN A SANDBOX (cutbox-door.mjs). By AI agents, Wed Nov 11 2026. No macro, syntax, notation, axiom, sorry.
-/
import Derived.Test.YtjcfbeiljdohcaaGreatDoorRows
import GoSem.ClaimSeven
namespace Go.Proofs.YtjcfbeiljdohcaaGreatDoor
namespace Rows

/-- THE TIED CARD OF 'beaconlaw16.PatchBetween'. -/
def patchBetweenCard : Claim7 := { stood := { row := patchBetweenRow, standIns := [], harness := (true, "2393ba187a92a20797c2537c29753e38adf5c737064f9356615dea1bfc614bb1"), looks := true }, kinds := [], alts := [], laidByText := true, laidKinds := [.data, .pinned], laidTests := true, laidLooks := .later }
def PatchBetweenCardSaid : Prop := Claim7.holds Tryz.pinned (.plain (OpenSpec.ofChange patchBetweenSpec)) patchBetweenCard

/-- THE TIED CARD OF 'beaconlaw16.PatchApplies'. -/
def patchAppliesCard : Claim7 := { stood := { row := patchAppliesRow, standIns := [], harness := (true, "2393ba187a92a20797c2537c29753e38adf5c737064f9356615dea1bfc614bb1"), looks := true }, kinds := [], alts := [], laidByText := true, laidKinds := [.data, .pinned], laidTests := true, laidLooks := .later }
def PatchAppliesCardSaid : Prop := Claim7.holds Tryz.pinned (.plain (OpenSpec.ofChange patchAppliesSpec)) patchAppliesCard

/-- THE SECOND FORM's CARD OF 'beaconlaw16.PatchBetween'. -/
def patchBetweenUptoCard : Claim7 := { stood := { row := patchBetweenUptoRow, standIns := [], harness := (true, "2393ba187a92a20797c2537c29753e38adf5c737064f9356615dea1bfc614bb1"), looks := true }, kinds := [], alts := [], laidByText := true, laidKinds := [.data, .pinned], laidTests := true, laidLooks := .later }
def PatchBetweenUptoCardSaid : Prop := Claim7.holds Tryz.pinned (.plain (OpenSpec.upto patchBetweenSpec)) patchBetweenUptoCard

/-- THE SECOND FORM's CARD OF 'beaconlaw16.PatchApplies'. -/
def patchAppliesUptoCard : Claim7 := { stood := { row := patchAppliesUptoRow, standIns := [], harness := (true, "2393ba187a92a20797c2537c29753e38adf5c737064f9356615dea1bfc614bb1"), looks := true }, kinds := [], alts := [], laidByText := true, laidKinds := [.data, .pinned], laidTests := true, laidLooks := .later }
def PatchAppliesUptoCardSaid : Prop := Claim7.holds Tryz.pinned (.plain (OpenSpec.upto patchAppliesSpec)) patchAppliesUptoCard
end Rows
end Go.Proofs.YtjcfbeiljdohcaaGreatDoor
