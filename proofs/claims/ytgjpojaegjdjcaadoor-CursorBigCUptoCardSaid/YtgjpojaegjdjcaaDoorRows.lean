/-
  NARROWER THAN 'FOR EVERY INPUT', by the rows' own cells (each row's printed sentence says how): CursorUp: laid · CursorDown: laid · CursorSide: laid · CursorTo: laid · CursorTab: laid · CursorBigA: laid · CursorBigB: laid · CursorBigC: laid.
  DERIVED. THE GIVEN ROWS OF THIS SEAT. 8 by the template 'for every input the law returns true; each argument reads behind the call as it read before'; 0 by the template 'total and deterministic' (their statements: YtgjpojaegjdjcaaDoorTotals.lean).
  GIVEN WITH THE SEED: the statements are not yours to turn. If you find one false, say at which input.
  Laid BY PROGRAM, IN A SANDBOX (cutbox-rows.mjs): the forced cells as the released guide's own fill.sh prints them over the translation 58857a456ec2c078… (all of the seat's roots in one cut). By AI agents, Wed Nov 11 2026. No macro, syntax, notation, axiom, sorry.
-/
import Derived.Test.YtgjpojaegjdjcaaDoorChecked
import GoSem.PinnedTables
import GoSem.Claim
import GoSem.ClaimJoined
import GoSem.ClaimMapViews
import Derived.JoinedTies
import Derived.KernelRfl
namespace Go.Proofs.YtgjpojaegjdjcaaDoor
/- THE CELL 'sum', in the pinned program and in every row, IS THE sha256 OF THE DUMP (.gsa) THAT YtgjpojaegjdjcaaDoorProg.lean LOADS. Nothing in Lean hashes anything: it is a label: what it is worth is what the hold of that sum in a sandbox is worth. -/
noncomputable def Tryd.pinned : Pinned := { name := "ytgjpojaegjdjcaadoor", sum := "58857a456ec2c078664f9e4eb64c454561ef5c82df4782f5810e5982e4db0dcb", checked := Tryd.checked }
namespace Rows
def none {H : Type} : Left H := { results := [], args := [] }

/- WHAT THE LISTED PACKAGE-LEVEL VARIABLES READ AS WHEN THE CALL BEGINS. Each datum BY PROGRAM (the guide's laid-datum.mjs) off the statement by which the dump's own 'gosem.cut.vars' lays the variable. In a bare row this is a premise. The card (YtgjpojaegjdjcaaDoorCards.lean) ties it to the program's text. -/
def laid_unicode_utf8_acceptRanges {H : Type} : DataW H := .agg [.agg [.lit (.int .u8 128), .lit (.int .u8 191)], .agg [.lit (.int .u8 160), .lit (.int .u8 191)], .agg [.lit (.int .u8 128), .lit (.int .u8 159)], .agg [.lit (.int .u8 144), .lit (.int .u8 191)], .agg [.lit (.int .u8 128), .lit (.int .u8 143)], .agg [.lit (.int .u8 0), .lit (.int .u8 0)], .agg [.lit (.int .u8 0), .lit (.int .u8 0)], .agg [.lit (.int .u8 0), .lit (.int .u8 0)], .agg [.lit (.int .u8 0), .lit (.int .u8 0)], .agg [.lit (.int .u8 0), .lit (.int .u8 0)], .agg [.lit (.int .u8 0), .lit (.int .u8 0)], .agg [.lit (.int .u8 0), .lit (.int .u8 0)], .agg [.lit (.int .u8 0), .lit (.int .u8 0)], .agg [.lit (.int .u8 0), .lit (.int .u8 0)], .agg [.lit (.int .u8 0), .lit (.int .u8 0)], .agg [.lit (.int .u8 0), .lit (.int .u8 0)]]
/-- One of Go's own tables, pinned by name: the form's constant. -/
def laid_unicode_utf8_first : DataW Unit := Go.Pinned.utf8First

/-- 'beaconlaw10.CursorUp': WHATEVER THE INPUT: true; the input reads as it did. -/
def cursorUpSpec : ChangeSpec := { name := "cursorUp", fn := fun _ => fun
  | [d] => { results := [.lit (.bool true)], args := [d] }
  | _ => none }
def cursorUpRow : OpenClaim := { program := "ytgjpojaegjdjcaadoor", sum := "58857a456ec2c078664f9e4eb64c454561ef5c82df4782f5810e5982e4db0dcb", func := "beacon/beaconlaw10.CursorUp", spec := "cursorUp", inPlace := ["internal/abi.NoEscape"], unfollowed := true, recurses := true, named := ["unicode/utf8.first", "unicode/utf8.acceptRanges"], apart := false, laid := [("unicode/utf8.acceptRanges", laid_unicode_utf8_acceptRanges), ("unicode/utf8.first", laid_unicode_utf8_first)] }
def CursorUpSaid : Prop := cursorUpRow.holds Tryd.pinned (OpenSpec.ofChange cursorUpSpec)

/-- ITS FALSE NEIGHBOUR: 'it returns false'. Refute it at one input. -/
def cursorUpWrong : ChangeSpec := { name := "cursorUp", fn := fun _ => fun
  | [d] => { results := [.lit (.bool false)], args := [d] }
  | _ => none }
def CursorUpWrongFalsely : Prop := cursorUpRow.holds Tryd.pinned (OpenSpec.ofChange cursorUpWrong)

/-- 'beaconlaw10.CursorDown': WHATEVER THE INPUT: true; the input reads as it did. -/
def cursorDownSpec : ChangeSpec := { name := "cursorDown", fn := fun _ => fun
  | [d] => { results := [.lit (.bool true)], args := [d] }
  | _ => none }
def cursorDownRow : OpenClaim := { program := "ytgjpojaegjdjcaadoor", sum := "58857a456ec2c078664f9e4eb64c454561ef5c82df4782f5810e5982e4db0dcb", func := "beacon/beaconlaw10.CursorDown", spec := "cursorDown", inPlace := ["internal/abi.NoEscape"], unfollowed := true, recurses := true, named := ["unicode/utf8.first", "unicode/utf8.acceptRanges"], apart := false, laid := [("unicode/utf8.acceptRanges", laid_unicode_utf8_acceptRanges), ("unicode/utf8.first", laid_unicode_utf8_first)] }
def CursorDownSaid : Prop := cursorDownRow.holds Tryd.pinned (OpenSpec.ofChange cursorDownSpec)

/-- ITS FALSE NEIGHBOUR: 'it returns false'. Refute it at one input. -/
def cursorDownWrong : ChangeSpec := { name := "cursorDown", fn := fun _ => fun
  | [d] => { results := [.lit (.bool false)], args := [d] }
  | _ => none }
def CursorDownWrongFalsely : Prop := cursorDownRow.holds Tryd.pinned (OpenSpec.ofChange cursorDownWrong)

/-- 'beaconlaw10.CursorSide': WHATEVER THE INPUT: true; the input reads as it did. -/
def cursorSideSpec : ChangeSpec := { name := "cursorSide", fn := fun _ => fun
  | [d] => { results := [.lit (.bool true)], args := [d] }
  | _ => none }
def cursorSideRow : OpenClaim := { program := "ytgjpojaegjdjcaadoor", sum := "58857a456ec2c078664f9e4eb64c454561ef5c82df4782f5810e5982e4db0dcb", func := "beacon/beaconlaw10.CursorSide", spec := "cursorSide", inPlace := ["internal/abi.NoEscape"], unfollowed := true, recurses := true, named := ["unicode/utf8.first", "unicode/utf8.acceptRanges"], apart := false, laid := [("unicode/utf8.acceptRanges", laid_unicode_utf8_acceptRanges), ("unicode/utf8.first", laid_unicode_utf8_first)] }
def CursorSideSaid : Prop := cursorSideRow.holds Tryd.pinned (OpenSpec.ofChange cursorSideSpec)

/-- ITS FALSE NEIGHBOUR: 'it returns false'. Refute it at one input. -/
def cursorSideWrong : ChangeSpec := { name := "cursorSide", fn := fun _ => fun
  | [d] => { results := [.lit (.bool false)], args := [d] }
  | _ => none }
def CursorSideWrongFalsely : Prop := cursorSideRow.holds Tryd.pinned (OpenSpec.ofChange cursorSideWrong)

/-- 'beaconlaw10.CursorTo': WHATEVER THE INPUT: true; the input reads as it did. -/
def cursorToSpec : ChangeSpec := { name := "cursorTo", fn := fun _ => fun
  | [d] => { results := [.lit (.bool true)], args := [d] }
  | _ => none }
def cursorToRow : OpenClaim := { program := "ytgjpojaegjdjcaadoor", sum := "58857a456ec2c078664f9e4eb64c454561ef5c82df4782f5810e5982e4db0dcb", func := "beacon/beaconlaw10.CursorTo", spec := "cursorTo", inPlace := ["internal/abi.NoEscape"], unfollowed := true, recurses := true, named := ["unicode/utf8.first", "unicode/utf8.acceptRanges"], apart := false, laid := [("unicode/utf8.acceptRanges", laid_unicode_utf8_acceptRanges), ("unicode/utf8.first", laid_unicode_utf8_first)] }
def CursorToSaid : Prop := cursorToRow.holds Tryd.pinned (OpenSpec.ofChange cursorToSpec)

/-- ITS FALSE NEIGHBOUR: 'it returns false'. Refute it at one input. -/
def cursorToWrong : ChangeSpec := { name := "cursorTo", fn := fun _ => fun
  | [d] => { results := [.lit (.bool false)], args := [d] }
  | _ => none }
def CursorToWrongFalsely : Prop := cursorToRow.holds Tryd.pinned (OpenSpec.ofChange cursorToWrong)

/-- 'beaconlaw10.CursorTab': WHATEVER THE INPUT: true; the input reads as it did. -/
def cursorTabSpec : ChangeSpec := { name := "cursorTab", fn := fun _ => fun
  | [d] => { results := [.lit (.bool true)], args := [d] }
  | _ => none }
def cursorTabRow : OpenClaim := { program := "ytgjpojaegjdjcaadoor", sum := "58857a456ec2c078664f9e4eb64c454561ef5c82df4782f5810e5982e4db0dcb", func := "beacon/beaconlaw10.CursorTab", spec := "cursorTab", inPlace := ["internal/abi.NoEscape"], unfollowed := true, recurses := true, named := ["unicode/utf8.first", "unicode/utf8.acceptRanges"], apart := false, laid := [("unicode/utf8.acceptRanges", laid_unicode_utf8_acceptRanges), ("unicode/utf8.first", laid_unicode_utf8_first)] }
def CursorTabSaid : Prop := cursorTabRow.holds Tryd.pinned (OpenSpec.ofChange cursorTabSpec)

/-- ITS FALSE NEIGHBOUR: 'it returns false'. Refute it at one input. -/
def cursorTabWrong : ChangeSpec := { name := "cursorTab", fn := fun _ => fun
  | [d] => { results := [.lit (.bool false)], args := [d] }
  | _ => none }
def CursorTabWrongFalsely : Prop := cursorTabRow.holds Tryd.pinned (OpenSpec.ofChange cursorTabWrong)

/-- 'beaconlaw10.CursorBigA': WHATEVER THE INPUT: true; the input reads as it did. -/
def cursorBigASpec : ChangeSpec := { name := "cursorBigA", fn := fun _ => fun
  | [d] => { results := [.lit (.bool true)], args := [d] }
  | _ => none }
def cursorBigARow : OpenClaim := { program := "ytgjpojaegjdjcaadoor", sum := "58857a456ec2c078664f9e4eb64c454561ef5c82df4782f5810e5982e4db0dcb", func := "beacon/beaconlaw10.CursorBigA", spec := "cursorBigA", inPlace := ["internal/abi.NoEscape"], unfollowed := true, recurses := true, named := ["unicode/utf8.first", "unicode/utf8.acceptRanges"], apart := false, laid := [("unicode/utf8.acceptRanges", laid_unicode_utf8_acceptRanges), ("unicode/utf8.first", laid_unicode_utf8_first)] }
def CursorBigASaid : Prop := cursorBigARow.holds Tryd.pinned (OpenSpec.ofChange cursorBigASpec)

/-- ITS FALSE NEIGHBOUR: 'it returns false'. Refute it at one input. -/
def cursorBigAWrong : ChangeSpec := { name := "cursorBigA", fn := fun _ => fun
  | [d] => { results := [.lit (.bool false)], args := [d] }
  | _ => none }
def CursorBigAWrongFalsely : Prop := cursorBigARow.holds Tryd.pinned (OpenSpec.ofChange cursorBigAWrong)

/-- 'beaconlaw10.CursorBigB': WHATEVER THE INPUT: true; the input reads as it did. -/
def cursorBigBSpec : ChangeSpec := { name := "cursorBigB", fn := fun _ => fun
  | [d] => { results := [.lit (.bool true)], args := [d] }
  | _ => none }
def cursorBigBRow : OpenClaim := { program := "ytgjpojaegjdjcaadoor", sum := "58857a456ec2c078664f9e4eb64c454561ef5c82df4782f5810e5982e4db0dcb", func := "beacon/beaconlaw10.CursorBigB", spec := "cursorBigB", inPlace := ["internal/abi.NoEscape"], unfollowed := true, recurses := true, named := ["unicode/utf8.first", "unicode/utf8.acceptRanges"], apart := false, laid := [("unicode/utf8.acceptRanges", laid_unicode_utf8_acceptRanges), ("unicode/utf8.first", laid_unicode_utf8_first)] }
def CursorBigBSaid : Prop := cursorBigBRow.holds Tryd.pinned (OpenSpec.ofChange cursorBigBSpec)

/-- ITS FALSE NEIGHBOUR: 'it returns false'. Refute it at one input. -/
def cursorBigBWrong : ChangeSpec := { name := "cursorBigB", fn := fun _ => fun
  | [d] => { results := [.lit (.bool false)], args := [d] }
  | _ => none }
def CursorBigBWrongFalsely : Prop := cursorBigBRow.holds Tryd.pinned (OpenSpec.ofChange cursorBigBWrong)

/-- 'beaconlaw10.CursorBigC': WHATEVER THE INPUT: true; the input reads as it did. -/
def cursorBigCSpec : ChangeSpec := { name := "cursorBigC", fn := fun _ => fun
  | [d] => { results := [.lit (.bool true)], args := [d] }
  | _ => none }
def cursorBigCRow : OpenClaim := { program := "ytgjpojaegjdjcaadoor", sum := "58857a456ec2c078664f9e4eb64c454561ef5c82df4782f5810e5982e4db0dcb", func := "beacon/beaconlaw10.CursorBigC", spec := "cursorBigC", inPlace := ["internal/abi.NoEscape"], unfollowed := true, recurses := true, named := ["unicode/utf8.first", "unicode/utf8.acceptRanges"], apart := false, laid := [("unicode/utf8.acceptRanges", laid_unicode_utf8_acceptRanges), ("unicode/utf8.first", laid_unicode_utf8_first)] }
def CursorBigCSaid : Prop := cursorBigCRow.holds Tryd.pinned (OpenSpec.ofChange cursorBigCSpec)

/-- ITS FALSE NEIGHBOUR: 'it returns false'. Refute it at one input. -/
def cursorBigCWrong : ChangeSpec := { name := "cursorBigC", fn := fun _ => fun
  | [d] => { results := [.lit (.bool false)], args := [d] }
  | _ => none }
def CursorBigCWrongFalsely : Prop := cursorBigCRow.holds Tryd.pinned (OpenSpec.ofChange cursorBigCWrong)

/- THE SECOND FORM. 'bulk': how many values and letters a reading holds, each counted each time it is reached (what is shared counts as often as it is met; a slice's spare places count too). A statement '..UptoSaid' is the law's where the arguments, and the package variables that the reading takes, are together of bulk at most 1048576: NARROWER than '..Said'. Prove '..Said' where nothing that the law and all that it calls make is longer than what came in: it says more and counts as full. Else prove '..UptoSaid'. A law counts once. -/
mutual
def uptoBulk {H : Type} : DataW H → Nat
  | .lit (.string bytes) => bytes.length + 1
  | .lit _ => 1
  | .nil => 1
  | .ptr d => uptoBulk d + 1
  | .slice elems spare => uptoBulkAll elems + uptoBulkAll spare + 1
  | .agg parts => uptoBulkAll parts + 1
  | .iface _ d => uptoBulk d + 1
  | .map entries => uptoBulkEntries entries + 1
  | .held _ => 1
def uptoBulkAll {H : Type} : List (DataW H) → Nat
  | [] => 0
  | d :: r => uptoBulk d + uptoBulkAll r
def uptoBulkEntries {H : Type} : List (Lit × DataW H) → Nat
  | [] => 0
  | x :: r => uptoBulkEntry x + uptoBulkEntries r
def uptoBulkEntry {H : Type} : Lit × DataW H → Nat
  | (.string bytes, d) => bytes.length + uptoBulk d + 1
  | (_, d) => uptoBulk d + 1
 end
def uptoSmall : (H : Type) → List (DataW H) → Bool := fun _ ds => decide (uptoBulkAll ds ≤ 1048576)
def OpenSpec.upto (s : _root_.Go.ChangeSpec) : _root_.Go.OpenSpec := { _root_.Go.OpenSpec.ofChange s with cond := some uptoSmall }

/-- 'beaconlaw10.CursorUp', WHERE WHAT IT READS IS OF BULK AT MOST 1048576: true; the input reads as it did. -/
def cursorUpUptoRow : OpenClaim := { program := "ytgjpojaegjdjcaadoor", sum := "58857a456ec2c078664f9e4eb64c454561ef5c82df4782f5810e5982e4db0dcb", func := "beacon/beaconlaw10.CursorUp", spec := "cursorUp", inPlace := ["internal/abi.NoEscape"], unfollowed := true, recurses := true, named := ["unicode/utf8.first", "unicode/utf8.acceptRanges"], apart := false, laid := [("unicode/utf8.acceptRanges", laid_unicode_utf8_acceptRanges), ("unicode/utf8.first", laid_unicode_utf8_first)], narrowed := true }
def CursorUpUptoSaid : Prop := cursorUpUptoRow.holds Tryd.pinned (OpenSpec.upto cursorUpSpec)

/-- 'beaconlaw10.CursorDown', WHERE WHAT IT READS IS OF BULK AT MOST 1048576: true; the input reads as it did. -/
def cursorDownUptoRow : OpenClaim := { program := "ytgjpojaegjdjcaadoor", sum := "58857a456ec2c078664f9e4eb64c454561ef5c82df4782f5810e5982e4db0dcb", func := "beacon/beaconlaw10.CursorDown", spec := "cursorDown", inPlace := ["internal/abi.NoEscape"], unfollowed := true, recurses := true, named := ["unicode/utf8.first", "unicode/utf8.acceptRanges"], apart := false, laid := [("unicode/utf8.acceptRanges", laid_unicode_utf8_acceptRanges), ("unicode/utf8.first", laid_unicode_utf8_first)], narrowed := true }
def CursorDownUptoSaid : Prop := cursorDownUptoRow.holds Tryd.pinned (OpenSpec.upto cursorDownSpec)

/-- 'beaconlaw10.CursorSide', WHERE WHAT IT READS IS OF BULK AT MOST 1048576: true; the input reads as it did. -/
def cursorSideUptoRow : OpenClaim := { program := "ytgjpojaegjdjcaadoor", sum := "58857a456ec2c078664f9e4eb64c454561ef5c82df4782f5810e5982e4db0dcb", func := "beacon/beaconlaw10.CursorSide", spec := "cursorSide", inPlace := ["internal/abi.NoEscape"], unfollowed := true, recurses := true, named := ["unicode/utf8.first", "unicode/utf8.acceptRanges"], apart := false, laid := [("unicode/utf8.acceptRanges", laid_unicode_utf8_acceptRanges), ("unicode/utf8.first", laid_unicode_utf8_first)], narrowed := true }
def CursorSideUptoSaid : Prop := cursorSideUptoRow.holds Tryd.pinned (OpenSpec.upto cursorSideSpec)

/-- 'beaconlaw10.CursorTo', WHERE WHAT IT READS IS OF BULK AT MOST 1048576: true; the input reads as it did. -/
def cursorToUptoRow : OpenClaim := { program := "ytgjpojaegjdjcaadoor", sum := "58857a456ec2c078664f9e4eb64c454561ef5c82df4782f5810e5982e4db0dcb", func := "beacon/beaconlaw10.CursorTo", spec := "cursorTo", inPlace := ["internal/abi.NoEscape"], unfollowed := true, recurses := true, named := ["unicode/utf8.first", "unicode/utf8.acceptRanges"], apart := false, laid := [("unicode/utf8.acceptRanges", laid_unicode_utf8_acceptRanges), ("unicode/utf8.first", laid_unicode_utf8_first)], narrowed := true }
def CursorToUptoSaid : Prop := cursorToUptoRow.holds Tryd.pinned (OpenSpec.upto cursorToSpec)

/-- 'beaconlaw10.CursorTab', WHERE WHAT IT READS IS OF BULK AT MOST 1048576: true; the input reads as it did. -/
def cursorTabUptoRow : OpenClaim := { program := "ytgjpojaegjdjcaadoor", sum := "58857a456ec2c078664f9e4eb64c454561ef5c82df4782f5810e5982e4db0dcb", func := "beacon/beaconlaw10.CursorTab", spec := "cursorTab", inPlace := ["internal/abi.NoEscape"], unfollowed := true, recurses := true, named := ["unicode/utf8.first", "unicode/utf8.acceptRanges"], apart := false, laid := [("unicode/utf8.acceptRanges", laid_unicode_utf8_acceptRanges), ("unicode/utf8.first", laid_unicode_utf8_first)], narrowed := true }
def CursorTabUptoSaid : Prop := cursorTabUptoRow.holds Tryd.pinned (OpenSpec.upto cursorTabSpec)

/-- 'beaconlaw10.CursorBigA', WHERE WHAT IT READS IS OF BULK AT MOST 1048576: true; the input reads as it did. -/
def cursorBigAUptoRow : OpenClaim := { program := "ytgjpojaegjdjcaadoor", sum := "58857a456ec2c078664f9e4eb64c454561ef5c82df4782f5810e5982e4db0dcb", func := "beacon/beaconlaw10.CursorBigA", spec := "cursorBigA", inPlace := ["internal/abi.NoEscape"], unfollowed := true, recurses := true, named := ["unicode/utf8.first", "unicode/utf8.acceptRanges"], apart := false, laid := [("unicode/utf8.acceptRanges", laid_unicode_utf8_acceptRanges), ("unicode/utf8.first", laid_unicode_utf8_first)], narrowed := true }
def CursorBigAUptoSaid : Prop := cursorBigAUptoRow.holds Tryd.pinned (OpenSpec.upto cursorBigASpec)

/-- 'beaconlaw10.CursorBigB', WHERE WHAT IT READS IS OF BULK AT MOST 1048576: true; the input reads as it did. -/
def cursorBigBUptoRow : OpenClaim := { program := "ytgjpojaegjdjcaadoor", sum := "58857a456ec2c078664f9e4eb64c454561ef5c82df4782f5810e5982e4db0dcb", func := "beacon/beaconlaw10.CursorBigB", spec := "cursorBigB", inPlace := ["internal/abi.NoEscape"], unfollowed := true, recurses := true, named := ["unicode/utf8.first", "unicode/utf8.acceptRanges"], apart := false, laid := [("unicode/utf8.acceptRanges", laid_unicode_utf8_acceptRanges), ("unicode/utf8.first", laid_unicode_utf8_first)], narrowed := true }
def CursorBigBUptoSaid : Prop := cursorBigBUptoRow.holds Tryd.pinned (OpenSpec.upto cursorBigBSpec)

/-- 'beaconlaw10.CursorBigC', WHERE WHAT IT READS IS OF BULK AT MOST 1048576: true; the input reads as it did. -/
def cursorBigCUptoRow : OpenClaim := { program := "ytgjpojaegjdjcaadoor", sum := "58857a456ec2c078664f9e4eb64c454561ef5c82df4782f5810e5982e4db0dcb", func := "beacon/beaconlaw10.CursorBigC", spec := "cursorBigC", inPlace := ["internal/abi.NoEscape"], unfollowed := true, recurses := true, named := ["unicode/utf8.first", "unicode/utf8.acceptRanges"], apart := false, laid := [("unicode/utf8.acceptRanges", laid_unicode_utf8_acceptRanges), ("unicode/utf8.first", laid_unicode_utf8_first)], narrowed := true }
def CursorBigCUptoSaid : Prop := cursorBigCUptoRow.holds Tryd.pinned (OpenSpec.upto cursorBigCSpec)

end Rows
end Go.Proofs.YtgjpojaegjdjcaaDoor
