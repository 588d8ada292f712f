/-
  DERIVED. GIVEN WITH THE SEED: THE CARDS: each row of YtkkpdfjbgiijlaaDoorRows.lean that lists a variable, with what it lists TIED to the program's text (the seventh form; the later family's looks); each row that meets fmt, with fmt's text TOLD by the authors' own Lean function (tested against real Go, not proved from fmt's source: count such statements apart). THE CARD IS WHAT COUNTS. Prove the row's statement (the work); the ties are given (YtkkpdfjbgiijlaaDoorTie.lean); close each card by the builder's one call (the guide's Derived/Test/ToyasCard.lean, 'card_holds'). Laid BY PROGRAM, IN A SANDBOX (cutbox-door.mjs). By AI agents, Wed Nov 11 2026. No macro, syntax, notation, axiom, sorry.
-/
import Derived.Test.YtkkpdfjbgiijlaaDoorRows
import GoSem.ClaimSeven
namespace Go.Proofs.YtkkpdfjbgiijlaaDoor
namespace Rows

/-- THE TIED CARD OF 'beaconlaw15.KeyBytes'. -/
def keyBytesCard : Claim7 := { stood := { row := keyBytesRow, standIns := [], harness := (true, "5679bfa438a1948b0f05611c37b6be4db7d8f643fa6aa0cbcfc7f0d92e5ceb27"), looks := true }, kinds := [], alts := [], laidByText := true, laidKinds := [.data, .data, .data], laidTests := true, laidLooks := .later }
def KeyBytesCardSaid : Prop := Claim7.holds Tryd.pinned (.plain (OpenSpec.ofChange keyBytesSpec)) keyBytesCard

/-- THE TIED CARD OF 'beaconlaw15.KeyEach'. -/
def keyEachCard : Claim7 := { stood := { row := keyEachRow, standIns := [], harness := (true, "5679bfa438a1948b0f05611c37b6be4db7d8f643fa6aa0cbcfc7f0d92e5ceb27"), looks := true }, kinds := [], alts := [], laidByText := true, laidKinds := [.data, .data, .data], laidTests := true, laidLooks := .later }
def KeyEachCardSaid : Prop := Claim7.holds Tryd.pinned (.plain (OpenSpec.ofChange keyEachSpec)) keyEachCard

/-- THE TIED CARD OF 'beaconlaw15.KeyTexts'. -/
def keyTextsCard : Claim7 := { stood := { row := keyTextsRow, standIns := [], harness := (true, "5679bfa438a1948b0f05611c37b6be4db7d8f643fa6aa0cbcfc7f0d92e5ceb27"), looks := true }, kinds := [], alts := [], laidByText := true, laidKinds := [.data, .data, .data], laidTests := true, laidLooks := .later }
def KeyTextsCardSaid : Prop := Claim7.holds Tryd.pinned (.plain (OpenSpec.ofChange keyTextsSpec)) keyTextsCard

/-- THE SECOND FORM's CARD OF 'beaconlaw15.KeyBytes'. -/
def keyBytesUptoCard : Claim7 := { stood := { row := keyBytesUptoRow, standIns := [], harness := (true, "5679bfa438a1948b0f05611c37b6be4db7d8f643fa6aa0cbcfc7f0d92e5ceb27"), looks := true }, kinds := [], alts := [], laidByText := true, laidKinds := [.data, .data, .data], laidTests := true, laidLooks := .later }
def KeyBytesUptoCardSaid : Prop := Claim7.holds Tryd.pinned (.plain (OpenSpec.upto keyBytesSpec)) keyBytesUptoCard

/-- THE SECOND FORM's CARD OF 'beaconlaw15.KeyEach'. -/
def keyEachUptoCard : Claim7 := { stood := { row := keyEachUptoRow, standIns := [], harness := (true, "5679bfa438a1948b0f05611c37b6be4db7d8f643fa6aa0cbcfc7f0d92e5ceb27"), looks := true }, kinds := [], alts := [], laidByText := true, laidKinds := [.data, .data, .data], laidTests := true, laidLooks := .later }
def KeyEachUptoCardSaid : Prop := Claim7.holds Tryd.pinned (.plain (OpenSpec.upto keyEachSpec)) keyEachUptoCard

/-- THE SECOND FORM's CARD OF 'beaconlaw15.KeyTexts'. -/
def keyTextsUptoCard : Claim7 := { stood := { row := keyTextsUptoRow, standIns := [], harness := (true, "5679bfa438a1948b0f05611c37b6be4db7d8f643fa6aa0cbcfc7f0d92e5ceb27"), looks := true }, kinds := [], alts := [], laidByText := true, laidKinds := [.data, .data, .data], laidTests := true, laidLooks := .later }
def KeyTextsUptoCardSaid : Prop := Claim7.holds Tryd.pinned (.plain (OpenSpec.upto keyTextsSpec)) keyTextsUptoCard
end Rows
end Go.Proofs.YtkkpdfjbgiijlaaDoor
