/-
  DERIVED. GIVEN WITH THE SEED: THE CARDS: each row of YtjodbmfjdpbbnaaDoorRows.lean that lists a variable, with what it lists TIED to the program's text (the seventh form; the later family's looks); each row that meets fmt, with fmt's text TOLD by the authors' own Lean function (tested against real Go, not proved from fmt's source: count such statements apart). THE CARD IS WHAT COUNTS. Prove the row's statement (the work); the ties are given (YtjodbmfjdpbbnaaDoorTie.lean); close each card by the builder's one call (the guide's Derived/Test/ToyasCard.lean, 'card_holds'). Laid BY PROGRAM, IN A SANDBOX (cutbox-door.mjs). By AI agents, Wed Nov 11 2026. No macro, syntax, notation, axiom, sorry.
-/
import Derived.Test.YtjodbmfjdpbbnaaDoorRows
import GoSem.ClaimSeven
namespace Go.Proofs.YtjodbmfjdpbbnaaDoor
namespace Rows

/-- THE TIED CARD OF 'beaconlaw3.VtFeeds'. -/
def vtFeedsCard : Claim7 := { stood := { row := vtFeedsRow, standIns := [], harness := (true, "7c836ea073dff32d4c52e24d5709c1f07adac44321ed76e30ec7d2989e466e9c"), looks := true }, kinds := [], alts := [], laidByText := true, laidKinds := [.data, .pinned], laidTests := true, laidLooks := .later }
def VtFeedsCardSaid : Prop := Claim7.holds Tryd.pinned (.plain (OpenSpec.ofChange vtFeedsSpec)) vtFeedsCard

/-- THE TIED CARD OF 'beaconlaw3.VtEach'. -/
def vtEachCard : Claim7 := { stood := { row := vtEachRow, standIns := [], harness := (true, "7c836ea073dff32d4c52e24d5709c1f07adac44321ed76e30ec7d2989e466e9c"), looks := true }, kinds := [], alts := [], laidByText := true, laidKinds := [.data, .pinned], laidTests := true, laidLooks := .later }
def VtEachCardSaid : Prop := Claim7.holds Tryd.pinned (.plain (OpenSpec.ofChange vtEachSpec)) vtEachCard

/-- THE TIED CARD OF 'beaconlaw3.VtSplits'. -/
def vtSplitsCard : Claim7 := { stood := { row := vtSplitsRow, standIns := [], harness := (true, "7c836ea073dff32d4c52e24d5709c1f07adac44321ed76e30ec7d2989e466e9c"), looks := true }, kinds := [], alts := [], laidByText := true, laidKinds := [.data, .pinned], laidTests := true, laidLooks := .later }
def VtSplitsCardSaid : Prop := Claim7.holds Tryd.pinned (.plain (OpenSpec.ofChange vtSplitsSpec)) vtSplitsCard

/-- THE SECOND FORM's CARD OF 'beaconlaw3.VtFeeds'. -/
def vtFeedsUptoCard : Claim7 := { stood := { row := vtFeedsUptoRow, standIns := [], harness := (true, "7c836ea073dff32d4c52e24d5709c1f07adac44321ed76e30ec7d2989e466e9c"), looks := true }, kinds := [], alts := [], laidByText := true, laidKinds := [.data, .pinned], laidTests := true, laidLooks := .later }
def VtFeedsUptoCardSaid : Prop := Claim7.holds Tryd.pinned (.plain (OpenSpec.upto vtFeedsSpec)) vtFeedsUptoCard

/-- THE SECOND FORM's CARD OF 'beaconlaw3.VtEach'. -/
def vtEachUptoCard : Claim7 := { stood := { row := vtEachUptoRow, standIns := [], harness := (true, "7c836ea073dff32d4c52e24d5709c1f07adac44321ed76e30ec7d2989e466e9c"), looks := true }, kinds := [], alts := [], laidByText := true, laidKinds := [.data, .pinned], laidTests := true, laidLooks := .later }
def VtEachUptoCardSaid : Prop := Claim7.holds Tryd.pinned (.plain (OpenSpec.upto vtEachSpec)) vtEachUptoCard

/-- THE SECOND FORM's CARD OF 'beaconlaw3.VtSplits'. -/
def vtSplitsUptoCard : Claim7 := { stood := { row := vtSplitsUptoRow, standIns := [], harness := (true, "7c836ea073dff32d4c52e24d5709c1f07adac44321ed76e30ec7d2989e466e9c"), looks := true }, kinds := [], alts := [], laidByText := true, laidKinds := [.data, .pinned], laidTests := true, laidLooks := .later }
def VtSplitsUptoCardSaid : Prop := Claim7.holds Tryd.pinned (.plain (OpenSpec.upto vtSplitsSpec)) vtSplitsUptoCard
end Rows
end Go.Proofs.YtjodbmfjdpbbnaaDoor
