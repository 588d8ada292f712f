/-
  NARROWER THAN 'FOR EVERY INPUT', by the rows' own cells (each row's printed sentence says how): ModeSets: laid · ModeMargins: laid · ModeResets: laid · ModeWrap: laid · ModeOrigin: laid · ModeShown: laid · ModeGrid: laid · ModeBare: laid · ModeCleared: laid · PrintRunes: laid · CursorKeeps: laid · EditBeside: laid.
  DERIVED. THE GIVEN ROWS OF THIS SEAT. 12 by the template 'for every input the law returns true; each argument reads behind the call as it read before'; 0 by the template 'total and deterministic' (their statements: YtceaoadlhdgnmaaGreatDoorTotals.lean).
  GIVEN WITH THE SEED: the statements are not yours to turn. If you find one false, say at which input.
  Laid BY PROGRAM, IN A SANDBOX (cutbox-rows.mjs): the forced cells as the released guide's own fill.sh prints them over the translation b43e73d88b487a37… (all of the seat's roots in one cut). By AI agents, Wed Nov 11 2026. No macro, syntax, notation, axiom, sorry.
-/
import Derived.Test.YtceaoadlhdgnmaaGreatDoorChecked
import GoSem.PinnedTables
import GoSem.Claim
import GoSem.ClaimJoined
import GoSem.ClaimMapViews
import Derived.JoinedTies
import Derived.KernelRfl
namespace Go.Proofs.YtceaoadlhdgnmaaGreatDoor
/- THE CELL 'sum', in the pinned program and in every row, IS THE sha256 OF THE DUMP (.gsa) THAT YtceaoadlhdgnmaaGreatDoorProg.lean LOADS. Nothing in Lean hashes anything: it is a label: what it is worth is what the hold of that sum in a sandbox is worth. -/
noncomputable def Tryz.pinned : Pinned := { name := "ytceaoadlhdgnmaagreatdoor", sum := "b43e73d88b487a3784066fad2f21dd2beee24c907b85a53d1f05d4f7c4e8dfd9", checked := Tryz.checked }
namespace Rows
def none {H : Type} : Left H := { results := [], args := [] }

/- WHAT THE LISTED PACKAGE-LEVEL VARIABLES READ AS WHEN THE CALL BEGINS. Each datum BY PROGRAM (the guide's laid-datum.mjs) off the statement by which the dump's own 'gosem.cut.vars' lays the variable. In a bare row this is a premise. The card (YtceaoadlhdgnmaaGreatDoorCards.lean) ties it to the program's text. -/
def laid_unicode_utf8_acceptRanges {H : Type} : DataW H := .agg [.agg [.lit (.int .u8 128), .lit (.int .u8 191)], .agg [.lit (.int .u8 160), .lit (.int .u8 191)], .agg [.lit (.int .u8 128), .lit (.int .u8 159)], .agg [.lit (.int .u8 144), .lit (.int .u8 191)], .agg [.lit (.int .u8 128), .lit (.int .u8 143)], .agg [.lit (.int .u8 0), .lit (.int .u8 0)], .agg [.lit (.int .u8 0), .lit (.int .u8 0)], .agg [.lit (.int .u8 0), .lit (.int .u8 0)], .agg [.lit (.int .u8 0), .lit (.int .u8 0)], .agg [.lit (.int .u8 0), .lit (.int .u8 0)], .agg [.lit (.int .u8 0), .lit (.int .u8 0)], .agg [.lit (.int .u8 0), .lit (.int .u8 0)], .agg [.lit (.int .u8 0), .lit (.int .u8 0)], .agg [.lit (.int .u8 0), .lit (.int .u8 0)], .agg [.lit (.int .u8 0), .lit (.int .u8 0)], .agg [.lit (.int .u8 0), .lit (.int .u8 0)]]
/-- One of Go's own tables, pinned by name: the form's constant. -/
def laid_unicode_utf8_first : DataW Unit := Go.Pinned.utf8First

/-- 'beaconlaw12.ModeSets': WHATEVER THE INPUT: true; the input reads as it did. -/
def modeSetsSpec : ChangeSpec := { name := "modeSets", fn := fun _ => fun
  | [d] => { results := [.lit (.bool true)], args := [d] }
  | _ => none }
def modeSetsRow : OpenClaim := { program := "ytceaoadlhdgnmaagreatdoor", sum := "b43e73d88b487a3784066fad2f21dd2beee24c907b85a53d1f05d4f7c4e8dfd9", func := "beacon/beaconlaw12.ModeSets", spec := "modeSets", inPlace := ["internal/abi.NoEscape"], unfollowed := true, recurses := true, named := ["unicode/utf8.first", "unicode/utf8.acceptRanges"], apart := false, laid := [("unicode/utf8.acceptRanges", laid_unicode_utf8_acceptRanges), ("unicode/utf8.first", laid_unicode_utf8_first)] }
def ModeSetsSaid : Prop := modeSetsRow.holds Tryz.pinned (OpenSpec.ofChange modeSetsSpec)

/-- ITS FALSE NEIGHBOUR: 'it returns false'. Refute it at one input. -/
def modeSetsWrong : ChangeSpec := { name := "modeSets", fn := fun _ => fun
  | [d] => { results := [.lit (.bool false)], args := [d] }
  | _ => none }
def ModeSetsWrongFalsely : Prop := modeSetsRow.holds Tryz.pinned (OpenSpec.ofChange modeSetsWrong)

/-- 'beaconlaw12.ModeMargins': WHATEVER THE INPUT: true; the input reads as it did. -/
def modeMarginsSpec : ChangeSpec := { name := "modeMargins", fn := fun _ => fun
  | [d] => { results := [.lit (.bool true)], args := [d] }
  | _ => none }
def modeMarginsRow : OpenClaim := { program := "ytceaoadlhdgnmaagreatdoor", sum := "b43e73d88b487a3784066fad2f21dd2beee24c907b85a53d1f05d4f7c4e8dfd9", func := "beacon/beaconlaw12.ModeMargins", spec := "modeMargins", inPlace := ["internal/abi.NoEscape"], unfollowed := true, recurses := true, named := ["unicode/utf8.first", "unicode/utf8.acceptRanges"], apart := false, laid := [("unicode/utf8.acceptRanges", laid_unicode_utf8_acceptRanges), ("unicode/utf8.first", laid_unicode_utf8_first)] }
def ModeMarginsSaid : Prop := modeMarginsRow.holds Tryz.pinned (OpenSpec.ofChange modeMarginsSpec)

/-- ITS FALSE NEIGHBOUR: 'it returns false'. Refute it at one input. -/
def modeMarginsWrong : ChangeSpec := { name := "modeMargins", fn := fun _ => fun
  | [d] => { results := [.lit (.bool false)], args := [d] }
  | _ => none }
def ModeMarginsWrongFalsely : Prop := modeMarginsRow.holds Tryz.pinned (OpenSpec.ofChange modeMarginsWrong)

/-- 'beaconlaw12.ModeResets': WHATEVER THE INPUT: true; the input reads as it did. -/
def modeResetsSpec : ChangeSpec := { name := "modeResets", fn := fun _ => fun
  | [d] => { results := [.lit (.bool true)], args := [d] }
  | _ => none }
def modeResetsRow : OpenClaim := { program := "ytceaoadlhdgnmaagreatdoor", sum := "b43e73d88b487a3784066fad2f21dd2beee24c907b85a53d1f05d4f7c4e8dfd9", func := "beacon/beaconlaw12.ModeResets", spec := "modeResets", inPlace := ["internal/abi.NoEscape"], unfollowed := true, recurses := true, named := ["unicode/utf8.first", "unicode/utf8.acceptRanges"], apart := false, laid := [("unicode/utf8.acceptRanges", laid_unicode_utf8_acceptRanges), ("unicode/utf8.first", laid_unicode_utf8_first)] }
def ModeResetsSaid : Prop := modeResetsRow.holds Tryz.pinned (OpenSpec.ofChange modeResetsSpec)

/-- ITS FALSE NEIGHBOUR: 'it returns false'. Refute it at one input. -/
def modeResetsWrong : ChangeSpec := { name := "modeResets", fn := fun _ => fun
  | [d] => { results := [.lit (.bool false)], args := [d] }
  | _ => none }
def ModeResetsWrongFalsely : Prop := modeResetsRow.holds Tryz.pinned (OpenSpec.ofChange modeResetsWrong)

/-- 'beaconlaw12.ModeWrap': WHATEVER THE INPUT: true; the input reads as it did. -/
def modeWrapSpec : ChangeSpec := { name := "modeWrap", fn := fun _ => fun
  | [d] => { results := [.lit (.bool true)], args := [d] }
  | _ => none }
def modeWrapRow : OpenClaim := { program := "ytceaoadlhdgnmaagreatdoor", sum := "b43e73d88b487a3784066fad2f21dd2beee24c907b85a53d1f05d4f7c4e8dfd9", func := "beacon/beaconlaw12.ModeWrap", spec := "modeWrap", inPlace := ["internal/abi.NoEscape"], unfollowed := true, recurses := true, named := ["unicode/utf8.first", "unicode/utf8.acceptRanges"], apart := false, laid := [("unicode/utf8.acceptRanges", laid_unicode_utf8_acceptRanges), ("unicode/utf8.first", laid_unicode_utf8_first)] }
def ModeWrapSaid : Prop := modeWrapRow.holds Tryz.pinned (OpenSpec.ofChange modeWrapSpec)

/-- ITS FALSE NEIGHBOUR: 'it returns false'. Refute it at one input. -/
def modeWrapWrong : ChangeSpec := { name := "modeWrap", fn := fun _ => fun
  | [d] => { results := [.lit (.bool false)], args := [d] }
  | _ => none }
def ModeWrapWrongFalsely : Prop := modeWrapRow.holds Tryz.pinned (OpenSpec.ofChange modeWrapWrong)

/-- 'beaconlaw12.ModeOrigin': WHATEVER THE INPUT: true; the input reads as it did. -/
def modeOriginSpec : ChangeSpec := { name := "modeOrigin", fn := fun _ => fun
  | [d] => { results := [.lit (.bool true)], args := [d] }
  | _ => none }
def modeOriginRow : OpenClaim := { program := "ytceaoadlhdgnmaagreatdoor", sum := "b43e73d88b487a3784066fad2f21dd2beee24c907b85a53d1f05d4f7c4e8dfd9", func := "beacon/beaconlaw12.ModeOrigin", spec := "modeOrigin", inPlace := ["internal/abi.NoEscape"], unfollowed := true, recurses := true, named := ["unicode/utf8.first", "unicode/utf8.acceptRanges"], apart := false, laid := [("unicode/utf8.acceptRanges", laid_unicode_utf8_acceptRanges), ("unicode/utf8.first", laid_unicode_utf8_first)] }
def ModeOriginSaid : Prop := modeOriginRow.holds Tryz.pinned (OpenSpec.ofChange modeOriginSpec)

/-- ITS FALSE NEIGHBOUR: 'it returns false'. Refute it at one input. -/
def modeOriginWrong : ChangeSpec := { name := "modeOrigin", fn := fun _ => fun
  | [d] => { results := [.lit (.bool false)], args := [d] }
  | _ => none }
def ModeOriginWrongFalsely : Prop := modeOriginRow.holds Tryz.pinned (OpenSpec.ofChange modeOriginWrong)

/-- 'beaconlaw12.ModeShown': WHATEVER THE INPUT: true; the input reads as it did. -/
def modeShownSpec : ChangeSpec := { name := "modeShown", fn := fun _ => fun
  | [d] => { results := [.lit (.bool true)], args := [d] }
  | _ => none }
def modeShownRow : OpenClaim := { program := "ytceaoadlhdgnmaagreatdoor", sum := "b43e73d88b487a3784066fad2f21dd2beee24c907b85a53d1f05d4f7c4e8dfd9", func := "beacon/beaconlaw12.ModeShown", spec := "modeShown", inPlace := ["internal/abi.NoEscape"], unfollowed := true, recurses := true, named := ["unicode/utf8.first", "unicode/utf8.acceptRanges"], apart := false, laid := [("unicode/utf8.acceptRanges", laid_unicode_utf8_acceptRanges), ("unicode/utf8.first", laid_unicode_utf8_first)] }
def ModeShownSaid : Prop := modeShownRow.holds Tryz.pinned (OpenSpec.ofChange modeShownSpec)

/-- ITS FALSE NEIGHBOUR: 'it returns false'. Refute it at one input. -/
def modeShownWrong : ChangeSpec := { name := "modeShown", fn := fun _ => fun
  | [d] => { results := [.lit (.bool false)], args := [d] }
  | _ => none }
def ModeShownWrongFalsely : Prop := modeShownRow.holds Tryz.pinned (OpenSpec.ofChange modeShownWrong)

/-- 'beaconlaw12.ModeGrid': WHATEVER THE INPUT: true; the input reads as it did. -/
def modeGridSpec : ChangeSpec := { name := "modeGrid", fn := fun _ => fun
  | [d] => { results := [.lit (.bool true)], args := [d] }
  | _ => none }
def modeGridRow : OpenClaim := { program := "ytceaoadlhdgnmaagreatdoor", sum := "b43e73d88b487a3784066fad2f21dd2beee24c907b85a53d1f05d4f7c4e8dfd9", func := "beacon/beaconlaw12.ModeGrid", spec := "modeGrid", inPlace := ["internal/abi.NoEscape"], unfollowed := true, recurses := true, named := ["unicode/utf8.first", "unicode/utf8.acceptRanges"], apart := false, laid := [("unicode/utf8.acceptRanges", laid_unicode_utf8_acceptRanges), ("unicode/utf8.first", laid_unicode_utf8_first)] }
def ModeGridSaid : Prop := modeGridRow.holds Tryz.pinned (OpenSpec.ofChange modeGridSpec)

/-- ITS FALSE NEIGHBOUR: 'it returns false'. Refute it at one input. -/
def modeGridWrong : ChangeSpec := { name := "modeGrid", fn := fun _ => fun
  | [d] => { results := [.lit (.bool false)], args := [d] }
  | _ => none }
def ModeGridWrongFalsely : Prop := modeGridRow.holds Tryz.pinned (OpenSpec.ofChange modeGridWrong)

/-- 'beaconlaw12.ModeBare': WHATEVER THE INPUT: true; the input reads as it did. -/
def modeBareSpec : ChangeSpec := { name := "modeBare", fn := fun _ => fun
  | [d] => { results := [.lit (.bool true)], args := [d] }
  | _ => none }
def modeBareRow : OpenClaim := { program := "ytceaoadlhdgnmaagreatdoor", sum := "b43e73d88b487a3784066fad2f21dd2beee24c907b85a53d1f05d4f7c4e8dfd9", func := "beacon/beaconlaw12.ModeBare", spec := "modeBare", inPlace := ["internal/abi.NoEscape"], unfollowed := true, recurses := true, named := ["unicode/utf8.first", "unicode/utf8.acceptRanges"], apart := false, laid := [("unicode/utf8.acceptRanges", laid_unicode_utf8_acceptRanges), ("unicode/utf8.first", laid_unicode_utf8_first)] }
def ModeBareSaid : Prop := modeBareRow.holds Tryz.pinned (OpenSpec.ofChange modeBareSpec)

/-- ITS FALSE NEIGHBOUR: 'it returns false'. Refute it at one input. -/
def modeBareWrong : ChangeSpec := { name := "modeBare", fn := fun _ => fun
  | [d] => { results := [.lit (.bool false)], args := [d] }
  | _ => none }
def ModeBareWrongFalsely : Prop := modeBareRow.holds Tryz.pinned (OpenSpec.ofChange modeBareWrong)

/-- 'beaconlaw12.ModeCleared': WHATEVER THE INPUT: true; the input reads as it did. -/
def modeClearedSpec : ChangeSpec := { name := "modeCleared", fn := fun _ => fun
  | [d] => { results := [.lit (.bool true)], args := [d] }
  | _ => none }
def modeClearedRow : OpenClaim := { program := "ytceaoadlhdgnmaagreatdoor", sum := "b43e73d88b487a3784066fad2f21dd2beee24c907b85a53d1f05d4f7c4e8dfd9", func := "beacon/beaconlaw12.ModeCleared", spec := "modeCleared", inPlace := ["internal/abi.NoEscape"], unfollowed := true, recurses := true, named := ["unicode/utf8.first", "unicode/utf8.acceptRanges"], apart := false, laid := [("unicode/utf8.acceptRanges", laid_unicode_utf8_acceptRanges), ("unicode/utf8.first", laid_unicode_utf8_first)] }
def ModeClearedSaid : Prop := modeClearedRow.holds Tryz.pinned (OpenSpec.ofChange modeClearedSpec)

/-- ITS FALSE NEIGHBOUR: 'it returns false'. Refute it at one input. -/
def modeClearedWrong : ChangeSpec := { name := "modeCleared", fn := fun _ => fun
  | [d] => { results := [.lit (.bool false)], args := [d] }
  | _ => none }
def ModeClearedWrongFalsely : Prop := modeClearedRow.holds Tryz.pinned (OpenSpec.ofChange modeClearedWrong)

/-- 'beaconlaw9.PrintRunes': WHATEVER THE INPUT: true; the input reads as it did. -/
def printRunesSpec : ChangeSpec := { name := "printRunes", fn := fun _ => fun
  | [d] => { results := [.lit (.bool true)], args := [d] }
  | _ => none }
def printRunesRow : OpenClaim := { program := "ytceaoadlhdgnmaagreatdoor", sum := "b43e73d88b487a3784066fad2f21dd2beee24c907b85a53d1f05d4f7c4e8dfd9", func := "beacon/beaconlaw9.PrintRunes", spec := "printRunes", unfollowed := true, recurses := true, named := ["unicode/utf8.first", "unicode/utf8.acceptRanges"], apart := false, laid := [("unicode/utf8.acceptRanges", laid_unicode_utf8_acceptRanges), ("unicode/utf8.first", laid_unicode_utf8_first)] }
def PrintRunesSaid : Prop := printRunesRow.holds Tryz.pinned (OpenSpec.ofChange printRunesSpec)

/-- ITS FALSE NEIGHBOUR: 'it returns false'. Refute it at one input. -/
def printRunesWrong : ChangeSpec := { name := "printRunes", fn := fun _ => fun
  | [d] => { results := [.lit (.bool false)], args := [d] }
  | _ => none }
def PrintRunesWrongFalsely : Prop := printRunesRow.holds Tryz.pinned (OpenSpec.ofChange printRunesWrong)

/-- 'beaconlaw10.CursorKeeps': WHATEVER THE INPUT: true; the input reads as it did. -/
def cursorKeepsSpec : ChangeSpec := { name := "cursorKeeps", fn := fun _ => fun
  | [d] => { results := [.lit (.bool true)], args := [d] }
  | _ => none }
def cursorKeepsRow : OpenClaim := { program := "ytceaoadlhdgnmaagreatdoor", sum := "b43e73d88b487a3784066fad2f21dd2beee24c907b85a53d1f05d4f7c4e8dfd9", func := "beacon/beaconlaw10.CursorKeeps", spec := "cursorKeeps", inPlace := ["internal/abi.NoEscape"], unfollowed := true, recurses := true, named := ["unicode/utf8.first", "unicode/utf8.acceptRanges"], apart := false, laid := [("unicode/utf8.acceptRanges", laid_unicode_utf8_acceptRanges), ("unicode/utf8.first", laid_unicode_utf8_first)] }
def CursorKeepsSaid : Prop := cursorKeepsRow.holds Tryz.pinned (OpenSpec.ofChange cursorKeepsSpec)

/-- ITS FALSE NEIGHBOUR: 'it returns false'. Refute it at one input. -/
def cursorKeepsWrong : ChangeSpec := { name := "cursorKeeps", fn := fun _ => fun
  | [d] => { results := [.lit (.bool false)], args := [d] }
  | _ => none }
def CursorKeepsWrongFalsely : Prop := cursorKeepsRow.holds Tryz.pinned (OpenSpec.ofChange cursorKeepsWrong)

/-- 'beaconlaw11.EditBeside': WHATEVER THE INPUT: true; the input reads as it did. -/
def editBesideSpec : ChangeSpec := { name := "editBeside", fn := fun _ => fun
  | [d] => { results := [.lit (.bool true)], args := [d] }
  | _ => none }
def editBesideRow : OpenClaim := { program := "ytceaoadlhdgnmaagreatdoor", sum := "b43e73d88b487a3784066fad2f21dd2beee24c907b85a53d1f05d4f7c4e8dfd9", func := "beacon/beaconlaw11.EditBeside", spec := "editBeside", unfollowed := true, recurses := true, named := ["unicode/utf8.first", "unicode/utf8.acceptRanges"], apart := false, laid := [("unicode/utf8.acceptRanges", laid_unicode_utf8_acceptRanges), ("unicode/utf8.first", laid_unicode_utf8_first)] }
def EditBesideSaid : Prop := editBesideRow.holds Tryz.pinned (OpenSpec.ofChange editBesideSpec)

/-- ITS FALSE NEIGHBOUR: 'it returns false'. Refute it at one input. -/
def editBesideWrong : ChangeSpec := { name := "editBeside", fn := fun _ => fun
  | [d] => { results := [.lit (.bool false)], args := [d] }
  | _ => none }
def EditBesideWrongFalsely : Prop := editBesideRow.holds Tryz.pinned (OpenSpec.ofChange editBesideWrong)

/- THE SECOND FORM. 'bulk': how many values and letters a reading holds, each counted each time it is reached (what is shared counts as often as it is met; a slice's spare places count too). A statement '..UptoSaid' is the law's where the arguments, and the package variables that the reading takes, are together of bulk at most 1048576: NARROWER than '..Said'. Prove '..Said' where nothing that the law and all that it calls make is longer than what came in: it says more and counts as full. Else prove '..UptoSaid'. A law counts once. -/
mutual
def uptoBulk {H : Type} : DataW H → Nat
  | .lit (.string bytes) => bytes.length + 1
  | .lit _ => 1
  | .nil => 1
  | .ptr d => uptoBulk d + 1
  | .slice elems spare => uptoBulkAll elems + uptoBulkAll spare + 1
  | .agg parts => uptoBulkAll parts + 1
  | .iface _ d => uptoBulk d + 1
  | .map entries => uptoBulkEntries entries + 1
  | .held _ => 1
def uptoBulkAll {H : Type} : List (DataW H) → Nat
  | [] => 0
  | d :: r => uptoBulk d + uptoBulkAll r
def uptoBulkEntries {H : Type} : List (Lit × DataW H) → Nat
  | [] => 0
  | x :: r => uptoBulkEntry x + uptoBulkEntries r
def uptoBulkEntry {H : Type} : Lit × DataW H → Nat
  | (.string bytes, d) => bytes.length + uptoBulk d + 1
  | (_, d) => uptoBulk d + 1
 end
def uptoSmall : (H : Type) → List (DataW H) → Bool := fun _ ds => decide (uptoBulkAll ds ≤ 1048576)
def OpenSpec.upto (s : _root_.Go.ChangeSpec) : _root_.Go.OpenSpec := { _root_.Go.OpenSpec.ofChange s with cond := some uptoSmall }

/-- 'beaconlaw12.ModeSets', WHERE WHAT IT READS IS OF BULK AT MOST 1048576: true; the input reads as it did. -/
def modeSetsUptoRow : OpenClaim := { program := "ytceaoadlhdgnmaagreatdoor", sum := "b43e73d88b487a3784066fad2f21dd2beee24c907b85a53d1f05d4f7c4e8dfd9", func := "beacon/beaconlaw12.ModeSets", spec := "modeSets", inPlace := ["internal/abi.NoEscape"], unfollowed := true, recurses := true, named := ["unicode/utf8.first", "unicode/utf8.acceptRanges"], apart := false, laid := [("unicode/utf8.acceptRanges", laid_unicode_utf8_acceptRanges), ("unicode/utf8.first", laid_unicode_utf8_first)], narrowed := true }
def ModeSetsUptoSaid : Prop := modeSetsUptoRow.holds Tryz.pinned (OpenSpec.upto modeSetsSpec)

/-- 'beaconlaw12.ModeMargins', WHERE WHAT IT READS IS OF BULK AT MOST 1048576: true; the input reads as it did. -/
def modeMarginsUptoRow : OpenClaim := { program := "ytceaoadlhdgnmaagreatdoor", sum := "b43e73d88b487a3784066fad2f21dd2beee24c907b85a53d1f05d4f7c4e8dfd9", func := "beacon/beaconlaw12.ModeMargins", spec := "modeMargins", inPlace := ["internal/abi.NoEscape"], unfollowed := true, recurses := true, named := ["unicode/utf8.first", "unicode/utf8.acceptRanges"], apart := false, laid := [("unicode/utf8.acceptRanges", laid_unicode_utf8_acceptRanges), ("unicode/utf8.first", laid_unicode_utf8_first)], narrowed := true }
def ModeMarginsUptoSaid : Prop := modeMarginsUptoRow.holds Tryz.pinned (OpenSpec.upto modeMarginsSpec)

/-- 'beaconlaw12.ModeResets', WHERE WHAT IT READS IS OF BULK AT MOST 1048576: true; the input reads as it did. -/
def modeResetsUptoRow : OpenClaim := { program := "ytceaoadlhdgnmaagreatdoor", sum := "b43e73d88b487a3784066fad2f21dd2beee24c907b85a53d1f05d4f7c4e8dfd9", func := "beacon/beaconlaw12.ModeResets", spec := "modeResets", inPlace := ["internal/abi.NoEscape"], unfollowed := true, recurses := true, named := ["unicode/utf8.first", "unicode/utf8.acceptRanges"], apart := false, laid := [("unicode/utf8.acceptRanges", laid_unicode_utf8_acceptRanges), ("unicode/utf8.first", laid_unicode_utf8_first)], narrowed := true }
def ModeResetsUptoSaid : Prop := modeResetsUptoRow.holds Tryz.pinned (OpenSpec.upto modeResetsSpec)

/-- 'beaconlaw12.ModeWrap', WHERE WHAT IT READS IS OF BULK AT MOST 1048576: true; the input reads as it did. -/
def modeWrapUptoRow : OpenClaim := { program := "ytceaoadlhdgnmaagreatdoor", sum := "b43e73d88b487a3784066fad2f21dd2beee24c907b85a53d1f05d4f7c4e8dfd9", func := "beacon/beaconlaw12.ModeWrap", spec := "modeWrap", inPlace := ["internal/abi.NoEscape"], unfollowed := true, recurses := true, named := ["unicode/utf8.first", "unicode/utf8.acceptRanges"], apart := false, laid := [("unicode/utf8.acceptRanges", laid_unicode_utf8_acceptRanges), ("unicode/utf8.first", laid_unicode_utf8_first)], narrowed := true }
def ModeWrapUptoSaid : Prop := modeWrapUptoRow.holds Tryz.pinned (OpenSpec.upto modeWrapSpec)

/-- 'beaconlaw12.ModeOrigin', WHERE WHAT IT READS IS OF BULK AT MOST 1048576: true; the input reads as it did. -/
def modeOriginUptoRow : OpenClaim := { program := "ytceaoadlhdgnmaagreatdoor", sum := "b43e73d88b487a3784066fad2f21dd2beee24c907b85a53d1f05d4f7c4e8dfd9", func := "beacon/beaconlaw12.ModeOrigin", spec := "modeOrigin", inPlace := ["internal/abi.NoEscape"], unfollowed := true, recurses := true, named := ["unicode/utf8.first", "unicode/utf8.acceptRanges"], apart := false, laid := [("unicode/utf8.acceptRanges", laid_unicode_utf8_acceptRanges), ("unicode/utf8.first", laid_unicode_utf8_first)], narrowed := true }
def ModeOriginUptoSaid : Prop := modeOriginUptoRow.holds Tryz.pinned (OpenSpec.upto modeOriginSpec)

/-- 'beaconlaw12.ModeShown', WHERE WHAT IT READS IS OF BULK AT MOST 1048576: true; the input reads as it did. -/
def modeShownUptoRow : OpenClaim := { program := "ytceaoadlhdgnmaagreatdoor", sum := "b43e73d88b487a3784066fad2f21dd2beee24c907b85a53d1f05d4f7c4e8dfd9", func := "beacon/beaconlaw12.ModeShown", spec := "modeShown", inPlace := ["internal/abi.NoEscape"], unfollowed := true, recurses := true, named := ["unicode/utf8.first", "unicode/utf8.acceptRanges"], apart := false, laid := [("unicode/utf8.acceptRanges", laid_unicode_utf8_acceptRanges), ("unicode/utf8.first", laid_unicode_utf8_first)], narrowed := true }
def ModeShownUptoSaid : Prop := modeShownUptoRow.holds Tryz.pinned (OpenSpec.upto modeShownSpec)

/-- 'beaconlaw12.ModeGrid', WHERE WHAT IT READS IS OF BULK AT MOST 1048576: true; the input reads as it did. -/
def modeGridUptoRow : OpenClaim := { program := "ytceaoadlhdgnmaagreatdoor", sum := "b43e73d88b487a3784066fad2f21dd2beee24c907b85a53d1f05d4f7c4e8dfd9", func := "beacon/beaconlaw12.ModeGrid", spec := "modeGrid", inPlace := ["internal/abi.NoEscape"], unfollowed := true, recurses := true, named := ["unicode/utf8.first", "unicode/utf8.acceptRanges"], apart := false, laid := [("unicode/utf8.acceptRanges", laid_unicode_utf8_acceptRanges), ("unicode/utf8.first", laid_unicode_utf8_first)], narrowed := true }
def ModeGridUptoSaid : Prop := modeGridUptoRow.holds Tryz.pinned (OpenSpec.upto modeGridSpec)

/-- 'beaconlaw12.ModeBare', WHERE WHAT IT READS IS OF BULK AT MOST 1048576: true; the input reads as it did. -/
def modeBareUptoRow : OpenClaim := { program := "ytceaoadlhdgnmaagreatdoor", sum := "b43e73d88b487a3784066fad2f21dd2beee24c907b85a53d1f05d4f7c4e8dfd9", func := "beacon/beaconlaw12.ModeBare", spec := "modeBare", inPlace := ["internal/abi.NoEscape"], unfollowed := true, recurses := true, named := ["unicode/utf8.first", "unicode/utf8.acceptRanges"], apart := false, laid := [("unicode/utf8.acceptRanges", laid_unicode_utf8_acceptRanges), ("unicode/utf8.first", laid_unicode_utf8_first)], narrowed := true }
def ModeBareUptoSaid : Prop := modeBareUptoRow.holds Tryz.pinned (OpenSpec.upto modeBareSpec)

/-- 'beaconlaw12.ModeCleared', WHERE WHAT IT READS IS OF BULK AT MOST 1048576: true; the input reads as it did. -/
def modeClearedUptoRow : OpenClaim := { program := "ytceaoadlhdgnmaagreatdoor", sum := "b43e73d88b487a3784066fad2f21dd2beee24c907b85a53d1f05d4f7c4e8dfd9", func := "beacon/beaconlaw12.ModeCleared", spec := "modeCleared", inPlace := ["internal/abi.NoEscape"], unfollowed := true, recurses := true, named := ["unicode/utf8.first", "unicode/utf8.acceptRanges"], apart := false, laid := [("unicode/utf8.acceptRanges", laid_unicode_utf8_acceptRanges), ("unicode/utf8.first", laid_unicode_utf8_first)], narrowed := true }
def ModeClearedUptoSaid : Prop := modeClearedUptoRow.holds Tryz.pinned (OpenSpec.upto modeClearedSpec)

/-- 'beaconlaw9.PrintRunes', WHERE WHAT IT READS IS OF BULK AT MOST 1048576: true; the input reads as it did. -/
def printRunesUptoRow : OpenClaim := { program := "ytceaoadlhdgnmaagreatdoor", sum := "b43e73d88b487a3784066fad2f21dd2beee24c907b85a53d1f05d4f7c4e8dfd9", func := "beacon/beaconlaw9.PrintRunes", spec := "printRunes", unfollowed := true, recurses := true, named := ["unicode/utf8.first", "unicode/utf8.acceptRanges"], apart := false, laid := [("unicode/utf8.acceptRanges", laid_unicode_utf8_acceptRanges), ("unicode/utf8.first", laid_unicode_utf8_first)], narrowed := true }
def PrintRunesUptoSaid : Prop := printRunesUptoRow.holds Tryz.pinned (OpenSpec.upto printRunesSpec)

/-- 'beaconlaw10.CursorKeeps', WHERE WHAT IT READS IS OF BULK AT MOST 1048576: true; the input reads as it did. -/
def cursorKeepsUptoRow : OpenClaim := { program := "ytceaoadlhdgnmaagreatdoor", sum := "b43e73d88b487a3784066fad2f21dd2beee24c907b85a53d1f05d4f7c4e8dfd9", func := "beacon/beaconlaw10.CursorKeeps", spec := "cursorKeeps", inPlace := ["internal/abi.NoEscape"], unfollowed := true, recurses := true, named := ["unicode/utf8.first", "unicode/utf8.acceptRanges"], apart := false, laid := [("unicode/utf8.acceptRanges", laid_unicode_utf8_acceptRanges), ("unicode/utf8.first", laid_unicode_utf8_first)], narrowed := true }
def CursorKeepsUptoSaid : Prop := cursorKeepsUptoRow.holds Tryz.pinned (OpenSpec.upto cursorKeepsSpec)

/-- 'beaconlaw11.EditBeside', WHERE WHAT IT READS IS OF BULK AT MOST 1048576: true; the input reads as it did. -/
def editBesideUptoRow : OpenClaim := { program := "ytceaoadlhdgnmaagreatdoor", sum := "b43e73d88b487a3784066fad2f21dd2beee24c907b85a53d1f05d4f7c4e8dfd9", func := "beacon/beaconlaw11.EditBeside", spec := "editBeside", unfollowed := true, recurses := true, named := ["unicode/utf8.first", "unicode/utf8.acceptRanges"], apart := false, laid := [("unicode/utf8.acceptRanges", laid_unicode_utf8_acceptRanges), ("unicode/utf8.first", laid_unicode_utf8_first)], narrowed := true }
def EditBesideUptoSaid : Prop := editBesideUptoRow.holds Tryz.pinned (OpenSpec.upto editBesideSpec)

end Rows
end Go.Proofs.YtceaoadlhdgnmaaGreatDoor
