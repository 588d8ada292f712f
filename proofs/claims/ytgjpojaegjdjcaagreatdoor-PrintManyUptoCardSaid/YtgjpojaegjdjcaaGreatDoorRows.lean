/-
  NARROWER THAN 'FOR EVERY INPUT', by the rows' own cells (each row's printed sentence says how): PrintRunes: laid · PrintFeeds: laid · PrintMany: laid · CursorKeeps: laid.
  DERIVED. THE GIVEN ROWS OF THIS SEAT. 4 by the template 'for every input the law returns true; each argument reads behind the call as it read before'; 0 by the template 'total and deterministic' (their statements: YtgjpojaegjdjcaaGreatDoorTotals.lean).
  GIVEN WITH THE SEED: the statements are not yours to turn. If you find one false, say at which input.
  Laid BY PROGRAM, IN A SANDBOX (cutbox-rows.mjs): the forced cells as the released guide's own fill.sh prints them over the translation 0cf6b9c99cc2cfea… (all of the seat's roots in one cut). By AI agents, Wed Nov 11 2026. No macro, syntax, notation, axiom, sorry.
-/
import Derived.Test.YtgjpojaegjdjcaaGreatDoorChecked
import GoSem.PinnedTables
import GoSem.Claim
import GoSem.ClaimJoined
import GoSem.ClaimMapViews
import Derived.JoinedTies
import Derived.KernelRfl
namespace Go.Proofs.YtgjpojaegjdjcaaGreatDoor
/- THE CELL 'sum', in the pinned program and in every row, IS THE sha256 OF THE DUMP (.gsa) THAT YtgjpojaegjdjcaaGreatDoorProg.lean LOADS. Nothing in Lean hashes anything: it is a label: what it is worth is what the hold of that sum in a sandbox is worth. -/
noncomputable def Tryz.pinned : Pinned := { name := "ytgjpojaegjdjcaagreatdoor", sum := "0cf6b9c99cc2cfeacc29d5456ed155b5abcda9fd2c2ebeab21d6a74dd53138b7", checked := Tryz.checked }
namespace Rows
def none {H : Type} : Left H := { results := [], args := [] }

/- WHAT THE LISTED PACKAGE-LEVEL VARIABLES READ AS WHEN THE CALL BEGINS. Each datum BY PROGRAM (the guide's laid-datum.mjs) off the statement by which the dump's own 'gosem.cut.vars' lays the variable. In a bare row this is a premise. The card (YtgjpojaegjdjcaaGreatDoorCards.lean) ties it to the program's text. -/
def laid_unicode_utf8_acceptRanges {H : Type} : DataW H := .agg [.agg [.lit (.int .u8 128), .lit (.int .u8 191)], .agg [.lit (.int .u8 160), .lit (.int .u8 191)], .agg [.lit (.int .u8 128), .lit (.int .u8 159)], .agg [.lit (.int .u8 144), .lit (.int .u8 191)], .agg [.lit (.int .u8 128), .lit (.int .u8 143)], .agg [.lit (.int .u8 0), .lit (.int .u8 0)], .agg [.lit (.int .u8 0), .lit (.int .u8 0)], .agg [.lit (.int .u8 0), .lit (.int .u8 0)], .agg [.lit (.int .u8 0), .lit (.int .u8 0)], .agg [.lit (.int .u8 0), .lit (.int .u8 0)], .agg [.lit (.int .u8 0), .lit (.int .u8 0)], .agg [.lit (.int .u8 0), .lit (.int .u8 0)], .agg [.lit (.int .u8 0), .lit (.int .u8 0)], .agg [.lit (.int .u8 0), .lit (.int .u8 0)], .agg [.lit (.int .u8 0), .lit (.int .u8 0)], .agg [.lit (.int .u8 0), .lit (.int .u8 0)]]
/-- One of Go's own tables, pinned by name: the form's constant. -/
def laid_unicode_utf8_first : DataW Unit := Go.Pinned.utf8First

/-- 'beaconlaw9.PrintRunes': WHATEVER THE INPUT: true; the input reads as it did. -/
def printRunesSpec : ChangeSpec := { name := "printRunes", fn := fun _ => fun
  | [d] => { results := [.lit (.bool true)], args := [d] }
  | _ => none }
def printRunesRow : OpenClaim := { program := "ytgjpojaegjdjcaagreatdoor", sum := "0cf6b9c99cc2cfeacc29d5456ed155b5abcda9fd2c2ebeab21d6a74dd53138b7", func := "beacon/beaconlaw9.PrintRunes", spec := "printRunes", unfollowed := true, recurses := true, named := ["unicode/utf8.first", "unicode/utf8.acceptRanges"], apart := false, laid := [("unicode/utf8.acceptRanges", laid_unicode_utf8_acceptRanges), ("unicode/utf8.first", laid_unicode_utf8_first)] }
def PrintRunesSaid : Prop := printRunesRow.holds Tryz.pinned (OpenSpec.ofChange printRunesSpec)

/-- ITS FALSE NEIGHBOUR: 'it returns false'. Refute it at one input. -/
def printRunesWrong : ChangeSpec := { name := "printRunes", fn := fun _ => fun
  | [d] => { results := [.lit (.bool false)], args := [d] }
  | _ => none }
def PrintRunesWrongFalsely : Prop := printRunesRow.holds Tryz.pinned (OpenSpec.ofChange printRunesWrong)

/-- 'beaconlaw9.PrintFeeds': WHATEVER THE INPUT: true; the input reads as it did. -/
def printFeedsSpec : ChangeSpec := { name := "printFeeds", fn := fun _ => fun
  | [d] => { results := [.lit (.bool true)], args := [d] }
  | _ => none }
def printFeedsRow : OpenClaim := { program := "ytgjpojaegjdjcaagreatdoor", sum := "0cf6b9c99cc2cfeacc29d5456ed155b5abcda9fd2c2ebeab21d6a74dd53138b7", func := "beacon/beaconlaw9.PrintFeeds", spec := "printFeeds", unfollowed := true, recurses := true, named := ["unicode/utf8.first", "unicode/utf8.acceptRanges"], apart := false, laid := [("unicode/utf8.acceptRanges", laid_unicode_utf8_acceptRanges), ("unicode/utf8.first", laid_unicode_utf8_first)] }
def PrintFeedsSaid : Prop := printFeedsRow.holds Tryz.pinned (OpenSpec.ofChange printFeedsSpec)

/-- ITS FALSE NEIGHBOUR: 'it returns false'. Refute it at one input. -/
def printFeedsWrong : ChangeSpec := { name := "printFeeds", fn := fun _ => fun
  | [d] => { results := [.lit (.bool false)], args := [d] }
  | _ => none }
def PrintFeedsWrongFalsely : Prop := printFeedsRow.holds Tryz.pinned (OpenSpec.ofChange printFeedsWrong)

/-- 'beaconlaw9.PrintMany': WHATEVER THE INPUT: true; the input reads as it did. -/
def printManySpec : ChangeSpec := { name := "printMany", fn := fun _ => fun
  | [d] => { results := [.lit (.bool true)], args := [d] }
  | _ => none }
def printManyRow : OpenClaim := { program := "ytgjpojaegjdjcaagreatdoor", sum := "0cf6b9c99cc2cfeacc29d5456ed155b5abcda9fd2c2ebeab21d6a74dd53138b7", func := "beacon/beaconlaw9.PrintMany", spec := "printMany", unfollowed := true, recurses := true, named := ["unicode/utf8.first", "unicode/utf8.acceptRanges"], apart := false, laid := [("unicode/utf8.acceptRanges", laid_unicode_utf8_acceptRanges), ("unicode/utf8.first", laid_unicode_utf8_first)] }
def PrintManySaid : Prop := printManyRow.holds Tryz.pinned (OpenSpec.ofChange printManySpec)

/-- ITS FALSE NEIGHBOUR: 'it returns false'. Refute it at one input. -/
def printManyWrong : ChangeSpec := { name := "printMany", fn := fun _ => fun
  | [d] => { results := [.lit (.bool false)], args := [d] }
  | _ => none }
def PrintManyWrongFalsely : Prop := printManyRow.holds Tryz.pinned (OpenSpec.ofChange printManyWrong)

/-- 'beaconlaw10.CursorKeeps': WHATEVER THE INPUT: true; the input reads as it did. -/
def cursorKeepsSpec : ChangeSpec := { name := "cursorKeeps", fn := fun _ => fun
  | [d] => { results := [.lit (.bool true)], args := [d] }
  | _ => none }
def cursorKeepsRow : OpenClaim := { program := "ytgjpojaegjdjcaagreatdoor", sum := "0cf6b9c99cc2cfeacc29d5456ed155b5abcda9fd2c2ebeab21d6a74dd53138b7", func := "beacon/beaconlaw10.CursorKeeps", spec := "cursorKeeps", inPlace := ["internal/abi.NoEscape"], unfollowed := true, recurses := true, named := ["unicode/utf8.first", "unicode/utf8.acceptRanges"], apart := false, laid := [("unicode/utf8.acceptRanges", laid_unicode_utf8_acceptRanges), ("unicode/utf8.first", laid_unicode_utf8_first)] }
def CursorKeepsSaid : Prop := cursorKeepsRow.holds Tryz.pinned (OpenSpec.ofChange cursorKeepsSpec)

/-- ITS FALSE NEIGHBOUR: 'it returns false'. Refute it at one input. -/
def cursorKeepsWrong : ChangeSpec := { name := "cursorKeeps", fn := fun _ => fun
  | [d] => { results := [.lit (.bool false)], args := [d] }
  | _ => none }
def CursorKeepsWrongFalsely : Prop := cursorKeepsRow.holds Tryz.pinned (OpenSpec.ofChange cursorKeepsWrong)

/- THE SECOND FORM. 'bulk': how many values and letters a reading holds, each counted each time it is reached (what is shared counts as often as it is met; a slice's spare places count too). A statement '..UptoSaid' is the law's where the arguments, and the package variables that the reading takes, are together of bulk at most 1048576: NARROWER than '..Said'. Prove '..Said' where nothing that the law and all that it calls make is longer than what came in: it says more and counts as full. Else prove '..UptoSaid'. A law counts once. -/
mutual
def uptoBulk {H : Type} : DataW H → Nat
  | .lit (.string bytes) => bytes.length + 1
  | .lit _ => 1
  | .nil => 1
  | .ptr d => uptoBulk d + 1
  | .slice elems spare => uptoBulkAll elems + uptoBulkAll spare + 1
  | .agg parts => uptoBulkAll parts + 1
  | .iface _ d => uptoBulk d + 1
  | .map entries => uptoBulkEntries entries + 1
  | .held _ => 1
def uptoBulkAll {H : Type} : List (DataW H) → Nat
  | [] => 0
  | d :: r => uptoBulk d + uptoBulkAll r
def uptoBulkEntries {H : Type} : List (Lit × DataW H) → Nat
  | [] => 0
  | x :: r => uptoBulkEntry x + uptoBulkEntries r
def uptoBulkEntry {H : Type} : Lit × DataW H → Nat
  | (.string bytes, d) => bytes.length + uptoBulk d + 1
  | (_, d) => uptoBulk d + 1
 end
def uptoSmall : (H : Type) → List (DataW H) → Bool := fun _ ds => decide (uptoBulkAll ds ≤ 1048576)
def OpenSpec.upto (s : _root_.Go.ChangeSpec) : _root_.Go.OpenSpec := { _root_.Go.OpenSpec.ofChange s with cond := some uptoSmall }

/-- 'beaconlaw9.PrintRunes', WHERE WHAT IT READS IS OF BULK AT MOST 1048576: true; the input reads as it did. -/
def printRunesUptoRow : OpenClaim := { program := "ytgjpojaegjdjcaagreatdoor", sum := "0cf6b9c99cc2cfeacc29d5456ed155b5abcda9fd2c2ebeab21d6a74dd53138b7", func := "beacon/beaconlaw9.PrintRunes", spec := "printRunes", unfollowed := true, recurses := true, named := ["unicode/utf8.first", "unicode/utf8.acceptRanges"], apart := false, laid := [("unicode/utf8.acceptRanges", laid_unicode_utf8_acceptRanges), ("unicode/utf8.first", laid_unicode_utf8_first)], narrowed := true }
def PrintRunesUptoSaid : Prop := printRunesUptoRow.holds Tryz.pinned (OpenSpec.upto printRunesSpec)

/-- 'beaconlaw9.PrintFeeds', WHERE WHAT IT READS IS OF BULK AT MOST 1048576: true; the input reads as it did. -/
def printFeedsUptoRow : OpenClaim := { program := "ytgjpojaegjdjcaagreatdoor", sum := "0cf6b9c99cc2cfeacc29d5456ed155b5abcda9fd2c2ebeab21d6a74dd53138b7", func := "beacon/beaconlaw9.PrintFeeds", spec := "printFeeds", unfollowed := true, recurses := true, named := ["unicode/utf8.first", "unicode/utf8.acceptRanges"], apart := false, laid := [("unicode/utf8.acceptRanges", laid_unicode_utf8_acceptRanges), ("unicode/utf8.first", laid_unicode_utf8_first)], narrowed := true }
def PrintFeedsUptoSaid : Prop := printFeedsUptoRow.holds Tryz.pinned (OpenSpec.upto printFeedsSpec)

/-- 'beaconlaw9.PrintMany', WHERE WHAT IT READS IS OF BULK AT MOST 1048576: true; the input reads as it did. -/
def printManyUptoRow : OpenClaim := { program := "ytgjpojaegjdjcaagreatdoor", sum := "0cf6b9c99cc2cfeacc29d5456ed155b5abcda9fd2c2ebeab21d6a74dd53138b7", func := "beacon/beaconlaw9.PrintMany", spec := "printMany", unfollowed := true, recurses := true, named := ["unicode/utf8.first", "unicode/utf8.acceptRanges"], apart := false, laid := [("unicode/utf8.acceptRanges", laid_unicode_utf8_acceptRanges), ("unicode/utf8.first", laid_unicode_utf8_first)], narrowed := true }
def PrintManyUptoSaid : Prop := printManyUptoRow.holds Tryz.pinned (OpenSpec.upto printManySpec)

/-- 'beaconlaw10.CursorKeeps', WHERE WHAT IT READS IS OF BULK AT MOST 1048576: true; the input reads as it did. -/
def cursorKeepsUptoRow : OpenClaim := { program := "ytgjpojaegjdjcaagreatdoor", sum := "0cf6b9c99cc2cfeacc29d5456ed155b5abcda9fd2c2ebeab21d6a74dd53138b7", func := "beacon/beaconlaw10.CursorKeeps", spec := "cursorKeeps", inPlace := ["internal/abi.NoEscape"], unfollowed := true, recurses := true, named := ["unicode/utf8.first", "unicode/utf8.acceptRanges"], apart := false, laid := [("unicode/utf8.acceptRanges", laid_unicode_utf8_acceptRanges), ("unicode/utf8.first", laid_unicode_utf8_first)], narrowed := true }
def CursorKeepsUptoSaid : Prop := cursorKeepsUptoRow.holds Tryz.pinned (OpenSpec.upto cursorKeepsSpec)

end Rows
end Go.Proofs.YtgjpojaegjdjcaaGreatDoor
