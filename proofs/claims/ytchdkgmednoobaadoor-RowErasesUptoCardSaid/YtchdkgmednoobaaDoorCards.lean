/-
  DERIVED. GIVEN WITH THE SEED: THE CARDS: each row of YtchdkgmednoobaaDoorRows.lean that lists a variable, with what it lists TIED to the program's text (the seventh form; the later family's looks); each row that meets fmt, with fmt's text TOLD by the authors' own Lean function (tested against real Go, not proved from fmt's source: count such statements apart). THE CARD IS WHAT COUNTS. Prove the row's statement (the work); the ties are given (YtchdkgmednoobaaDoorTie.lean); close each card by the builder's one call (the guide's Derived/Test/ToyasCard.lean, 'card_holds'). Laid BY PROGRAM, IN A SANDBOX (cutbox-door.mjs). By AI agents, Wed Nov 11 2026. No macro, syntax, notation, axiom, sorry.
-/
import Derived.Test.YtchdkgmednoobaaDoorRows
import GoSem.ClaimSeven
namespace Go.Proofs.YtchdkgmednoobaaDoor
namespace Rows

/-- THE TIED CARD OF 'beaconlaw5.RowWhole'. -/
def rowWholeCard : Claim7 := { stood := { row := rowWholeRow, standIns := [], harness := (true, "d6c821c686706b033ab008bb0d2985b23e3dd1a152a8c7e5261fbaffb52a2c52"), looks := true }, kinds := [], alts := [], laidByText := true, laidKinds := [.data, .pinned], laidTests := true, laidLooks := .later }
def RowWholeCardSaid : Prop := Claim7.holds Tryd.pinned (.plain (OpenSpec.ofChange rowWholeSpec)) rowWholeCard

/-- THE TIED CARD OF 'beaconlaw5.RowPuts'. -/
def rowPutsCard : Claim7 := { stood := { row := rowPutsRow, standIns := [], harness := (true, "d6c821c686706b033ab008bb0d2985b23e3dd1a152a8c7e5261fbaffb52a2c52"), looks := true }, kinds := [], alts := [], laidByText := true, laidKinds := [.data, .pinned], laidTests := true, laidLooks := .later }
def RowPutsCardSaid : Prop := Claim7.holds Tryd.pinned (.plain (OpenSpec.ofChange rowPutsSpec)) rowPutsCard

/-- THE TIED CARD OF 'beaconlaw5.RowErases'. -/
def rowErasesCard : Claim7 := { stood := { row := rowErasesRow, standIns := [], harness := (true, "d6c821c686706b033ab008bb0d2985b23e3dd1a152a8c7e5261fbaffb52a2c52"), looks := true }, kinds := [], alts := [], laidByText := true, laidKinds := [.data, .pinned], laidTests := true, laidLooks := .later }
def RowErasesCardSaid : Prop := Claim7.holds Tryd.pinned (.plain (OpenSpec.ofChange rowErasesSpec)) rowErasesCard

/-- THE SECOND FORM's CARD OF 'beaconlaw5.RowWhole'. -/
def rowWholeUptoCard : Claim7 := { stood := { row := rowWholeUptoRow, standIns := [], harness := (true, "d6c821c686706b033ab008bb0d2985b23e3dd1a152a8c7e5261fbaffb52a2c52"), looks := true }, kinds := [], alts := [], laidByText := true, laidKinds := [.data, .pinned], laidTests := true, laidLooks := .later }
def RowWholeUptoCardSaid : Prop := Claim7.holds Tryd.pinned (.plain (OpenSpec.upto rowWholeSpec)) rowWholeUptoCard

/-- THE SECOND FORM's CARD OF 'beaconlaw5.RowPuts'. -/
def rowPutsUptoCard : Claim7 := { stood := { row := rowPutsUptoRow, standIns := [], harness := (true, "d6c821c686706b033ab008bb0d2985b23e3dd1a152a8c7e5261fbaffb52a2c52"), looks := true }, kinds := [], alts := [], laidByText := true, laidKinds := [.data, .pinned], laidTests := true, laidLooks := .later }
def RowPutsUptoCardSaid : Prop := Claim7.holds Tryd.pinned (.plain (OpenSpec.upto rowPutsSpec)) rowPutsUptoCard

/-- THE SECOND FORM's CARD OF 'beaconlaw5.RowErases'. -/
def rowErasesUptoCard : Claim7 := { stood := { row := rowErasesUptoRow, standIns := [], harness := (true, "d6c821c686706b033ab008bb0d2985b23e3dd1a152a8c7e5261fbaffb52a2c52"), looks := true }, kinds := [], alts := [], laidByText := true, laidKinds := [.data, .pinned], laidTests := true, laidLooks := .later }
def RowErasesUptoCardSaid : Prop := Claim7.holds Tryd.pinned (.plain (OpenSpec.upto rowErasesSpec)) rowErasesUptoCard
end Rows
end Go.Proofs.YtchdkgmednoobaaDoor
