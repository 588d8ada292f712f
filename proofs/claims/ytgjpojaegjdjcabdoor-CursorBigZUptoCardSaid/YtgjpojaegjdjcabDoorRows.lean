/-
  NARROWER THAN 'FOR EVERY INPUT', by the rows' own cells (each row's printed sentence says how): CursorBigD: laid · CursorBigE: laid · CursorBigF: laid · CursorBigG: laid · CursorD: laid · CursorBigH: laid · CursorBigI: laid · CursorBigZ: laid · CursorWithin: laid.
  DERIVED. THE GIVEN ROWS OF THIS SEAT. 9 by the template 'for every input the law returns true; each argument reads behind the call as it read before'; 0 by the template 'total and deterministic' (their statements: YtgjpojaegjdjcabDoorTotals.lean).
  GIVEN WITH THE SEED: the statements are not yours to turn. If you find one false, say at which input.
  Laid BY PROGRAM, IN A SANDBOX (cutbox-rows.mjs): the forced cells as the released guide's own fill.sh prints them over the translation bccf6cbc5a95619d… (all of the seat's roots in one cut). By AI agents, Wed Nov 11 2026. No macro, syntax, notation, axiom, sorry.
-/
import Derived.Test.YtgjpojaegjdjcabDoorChecked
import GoSem.PinnedTables
import GoSem.Claim
import GoSem.ClaimJoined
import GoSem.ClaimMapViews
import Derived.JoinedTies
import Derived.KernelRfl
namespace Go.Proofs.YtgjpojaegjdjcabDoor
/- THE CELL 'sum', in the pinned program and in every row, IS THE sha256 OF THE DUMP (.gsa) THAT YtgjpojaegjdjcabDoorProg.lean LOADS. Nothing in Lean hashes anything: it is a label: what it is worth is what the hold of that sum in a sandbox is worth. -/
noncomputable def Tryd.pinned : Pinned := { name := "ytgjpojaegjdjcabdoor", sum := "bccf6cbc5a95619d26b23f041e63dd77503149916e8d14fdee98ceb2ba5f8d35", checked := Tryd.checked }
namespace Rows
def none {H : Type} : Left H := { results := [], args := [] }

/- WHAT THE LISTED PACKAGE-LEVEL VARIABLES READ AS WHEN THE CALL BEGINS. Each datum BY PROGRAM (the guide's laid-datum.mjs) off the statement by which the dump's own 'gosem.cut.vars' lays the variable. In a bare row this is a premise. The card (YtgjpojaegjdjcabDoorCards.lean) ties it to the program's text. -/
def laid_unicode_utf8_acceptRanges {H : Type} : DataW H := .agg [.agg [.lit (.int .u8 128), .lit (.int .u8 191)], .agg [.lit (.int .u8 160), .lit (.int .u8 191)], .agg [.lit (.int .u8 128), .lit (.int .u8 159)], .agg [.lit (.int .u8 144), .lit (.int .u8 191)], .agg [.lit (.int .u8 128), .lit (.int .u8 143)], .agg [.lit (.int .u8 0), .lit (.int .u8 0)], .agg [.lit (.int .u8 0), .lit (.int .u8 0)], .agg [.lit (.int .u8 0), .lit (.int .u8 0)], .agg [.lit (.int .u8 0), .lit (.int .u8 0)], .agg [.lit (.int .u8 0), .lit (.int .u8 0)], .agg [.lit (.int .u8 0), .lit (.int .u8 0)], .agg [.lit (.int .u8 0), .lit (.int .u8 0)], .agg [.lit (.int .u8 0), .lit (.int .u8 0)], .agg [.lit (.int .u8 0), .lit (.int .u8 0)], .agg [.lit (.int .u8 0), .lit (.int .u8 0)], .agg [.lit (.int .u8 0), .lit (.int .u8 0)]]
/-- One of Go's own tables, pinned by name: the form's constant. -/
def laid_unicode_utf8_first : DataW Unit := Go.Pinned.utf8First

/-- 'beaconlaw10.CursorBigD': WHATEVER THE INPUT: true; the input reads as it did. -/
def cursorBigDSpec : ChangeSpec := { name := "cursorBigD", fn := fun _ => fun
  | [d] => { results := [.lit (.bool true)], args := [d] }
  | _ => none }
def cursorBigDRow : OpenClaim := { program := "ytgjpojaegjdjcabdoor", sum := "bccf6cbc5a95619d26b23f041e63dd77503149916e8d14fdee98ceb2ba5f8d35", func := "beacon/beaconlaw10.CursorBigD", spec := "cursorBigD", inPlace := ["internal/abi.NoEscape"], unfollowed := true, recurses := true, named := ["unicode/utf8.first", "unicode/utf8.acceptRanges"], apart := false, laid := [("unicode/utf8.acceptRanges", laid_unicode_utf8_acceptRanges), ("unicode/utf8.first", laid_unicode_utf8_first)] }
def CursorBigDSaid : Prop := cursorBigDRow.holds Tryd.pinned (OpenSpec.ofChange cursorBigDSpec)

/-- ITS FALSE NEIGHBOUR: 'it returns false'. Refute it at one input. -/
def cursorBigDWrong : ChangeSpec := { name := "cursorBigD", fn := fun _ => fun
  | [d] => { results := [.lit (.bool false)], args := [d] }
  | _ => none }
def CursorBigDWrongFalsely : Prop := cursorBigDRow.holds Tryd.pinned (OpenSpec.ofChange cursorBigDWrong)

/-- 'beaconlaw10.CursorBigE': WHATEVER THE INPUT: true; the input reads as it did. -/
def cursorBigESpec : ChangeSpec := { name := "cursorBigE", fn := fun _ => fun
  | [d] => { results := [.lit (.bool true)], args := [d] }
  | _ => none }
def cursorBigERow : OpenClaim := { program := "ytgjpojaegjdjcabdoor", sum := "bccf6cbc5a95619d26b23f041e63dd77503149916e8d14fdee98ceb2ba5f8d35", func := "beacon/beaconlaw10.CursorBigE", spec := "cursorBigE", inPlace := ["internal/abi.NoEscape"], unfollowed := true, recurses := true, named := ["unicode/utf8.first", "unicode/utf8.acceptRanges"], apart := false, laid := [("unicode/utf8.acceptRanges", laid_unicode_utf8_acceptRanges), ("unicode/utf8.first", laid_unicode_utf8_first)] }
def CursorBigESaid : Prop := cursorBigERow.holds Tryd.pinned (OpenSpec.ofChange cursorBigESpec)

/-- ITS FALSE NEIGHBOUR: 'it returns false'. Refute it at one input. -/
def cursorBigEWrong : ChangeSpec := { name := "cursorBigE", fn := fun _ => fun
  | [d] => { results := [.lit (.bool false)], args := [d] }
  | _ => none }
def CursorBigEWrongFalsely : Prop := cursorBigERow.holds Tryd.pinned (OpenSpec.ofChange cursorBigEWrong)

/-- 'beaconlaw10.CursorBigF': WHATEVER THE INPUT: true; the input reads as it did. -/
def cursorBigFSpec : ChangeSpec := { name := "cursorBigF", fn := fun _ => fun
  | [d] => { results := [.lit (.bool true)], args := [d] }
  | _ => none }
def cursorBigFRow : OpenClaim := { program := "ytgjpojaegjdjcabdoor", sum := "bccf6cbc5a95619d26b23f041e63dd77503149916e8d14fdee98ceb2ba5f8d35", func := "beacon/beaconlaw10.CursorBigF", spec := "cursorBigF", inPlace := ["internal/abi.NoEscape"], unfollowed := true, recurses := true, named := ["unicode/utf8.first", "unicode/utf8.acceptRanges"], apart := false, laid := [("unicode/utf8.acceptRanges", laid_unicode_utf8_acceptRanges), ("unicode/utf8.first", laid_unicode_utf8_first)] }
def CursorBigFSaid : Prop := cursorBigFRow.holds Tryd.pinned (OpenSpec.ofChange cursorBigFSpec)

/-- ITS FALSE NEIGHBOUR: 'it returns false'. Refute it at one input. -/
def cursorBigFWrong : ChangeSpec := { name := "cursorBigF", fn := fun _ => fun
  | [d] => { results := [.lit (.bool false)], args := [d] }
  | _ => none }
def CursorBigFWrongFalsely : Prop := cursorBigFRow.holds Tryd.pinned (OpenSpec.ofChange cursorBigFWrong)

/-- 'beaconlaw10.CursorBigG': WHATEVER THE INPUT: true; the input reads as it did. -/
def cursorBigGSpec : ChangeSpec := { name := "cursorBigG", fn := fun _ => fun
  | [d] => { results := [.lit (.bool true)], args := [d] }
  | _ => none }
def cursorBigGRow : OpenClaim := { program := "ytgjpojaegjdjcabdoor", sum := "bccf6cbc5a95619d26b23f041e63dd77503149916e8d14fdee98ceb2ba5f8d35", func := "beacon/beaconlaw10.CursorBigG", spec := "cursorBigG", inPlace := ["internal/abi.NoEscape"], unfollowed := true, recurses := true, named := ["unicode/utf8.first", "unicode/utf8.acceptRanges"], apart := false, laid := [("unicode/utf8.acceptRanges", laid_unicode_utf8_acceptRanges), ("unicode/utf8.first", laid_unicode_utf8_first)] }
def CursorBigGSaid : Prop := cursorBigGRow.holds Tryd.pinned (OpenSpec.ofChange cursorBigGSpec)

/-- ITS FALSE NEIGHBOUR: 'it returns false'. Refute it at one input. -/
def cursorBigGWrong : ChangeSpec := { name := "cursorBigG", fn := fun _ => fun
  | [d] => { results := [.lit (.bool false)], args := [d] }
  | _ => none }
def CursorBigGWrongFalsely : Prop := cursorBigGRow.holds Tryd.pinned (OpenSpec.ofChange cursorBigGWrong)

/-- 'beaconlaw10.CursorD': WHATEVER THE INPUT: true; the input reads as it did. -/
def cursorDSpec : ChangeSpec := { name := "cursorD", fn := fun _ => fun
  | [d] => { results := [.lit (.bool true)], args := [d] }
  | _ => none }
def cursorDRow : OpenClaim := { program := "ytgjpojaegjdjcabdoor", sum := "bccf6cbc5a95619d26b23f041e63dd77503149916e8d14fdee98ceb2ba5f8d35", func := "beacon/beaconlaw10.CursorD", spec := "cursorD", inPlace := ["internal/abi.NoEscape"], unfollowed := true, recurses := true, named := ["unicode/utf8.first", "unicode/utf8.acceptRanges"], apart := false, laid := [("unicode/utf8.acceptRanges", laid_unicode_utf8_acceptRanges), ("unicode/utf8.first", laid_unicode_utf8_first)] }
def CursorDSaid : Prop := cursorDRow.holds Tryd.pinned (OpenSpec.ofChange cursorDSpec)

/-- ITS FALSE NEIGHBOUR: 'it returns false'. Refute it at one input. -/
def cursorDWrong : ChangeSpec := { name := "cursorD", fn := fun _ => fun
  | [d] => { results := [.lit (.bool false)], args := [d] }
  | _ => none }
def CursorDWrongFalsely : Prop := cursorDRow.holds Tryd.pinned (OpenSpec.ofChange cursorDWrong)

/-- 'beaconlaw10.CursorBigH': WHATEVER THE INPUT: true; the input reads as it did. -/
def cursorBigHSpec : ChangeSpec := { name := "cursorBigH", fn := fun _ => fun
  | [d] => { results := [.lit (.bool true)], args := [d] }
  | _ => none }
def cursorBigHRow : OpenClaim := { program := "ytgjpojaegjdjcabdoor", sum := "bccf6cbc5a95619d26b23f041e63dd77503149916e8d14fdee98ceb2ba5f8d35", func := "beacon/beaconlaw10.CursorBigH", spec := "cursorBigH", inPlace := ["internal/abi.NoEscape"], unfollowed := true, recurses := true, named := ["unicode/utf8.first", "unicode/utf8.acceptRanges"], apart := false, laid := [("unicode/utf8.acceptRanges", laid_unicode_utf8_acceptRanges), ("unicode/utf8.first", laid_unicode_utf8_first)] }
def CursorBigHSaid : Prop := cursorBigHRow.holds Tryd.pinned (OpenSpec.ofChange cursorBigHSpec)

/-- ITS FALSE NEIGHBOUR: 'it returns false'. Refute it at one input. -/
def cursorBigHWrong : ChangeSpec := { name := "cursorBigH", fn := fun _ => fun
  | [d] => { results := [.lit (.bool false)], args := [d] }
  | _ => none }
def CursorBigHWrongFalsely : Prop := cursorBigHRow.holds Tryd.pinned (OpenSpec.ofChange cursorBigHWrong)

/-- 'beaconlaw10.CursorBigI': WHATEVER THE INPUT: true; the input reads as it did. -/
def cursorBigISpec : ChangeSpec := { name := "cursorBigI", fn := fun _ => fun
  | [d] => { results := [.lit (.bool true)], args := [d] }
  | _ => none }
def cursorBigIRow : OpenClaim := { program := "ytgjpojaegjdjcabdoor", sum := "bccf6cbc5a95619d26b23f041e63dd77503149916e8d14fdee98ceb2ba5f8d35", func := "beacon/beaconlaw10.CursorBigI", spec := "cursorBigI", inPlace := ["internal/abi.NoEscape"], unfollowed := true, recurses := true, named := ["unicode/utf8.first", "unicode/utf8.acceptRanges"], apart := false, laid := [("unicode/utf8.acceptRanges", laid_unicode_utf8_acceptRanges), ("unicode/utf8.first", laid_unicode_utf8_first)] }
def CursorBigISaid : Prop := cursorBigIRow.holds Tryd.pinned (OpenSpec.ofChange cursorBigISpec)

/-- ITS FALSE NEIGHBOUR: 'it returns false'. Refute it at one input. -/
def cursorBigIWrong : ChangeSpec := { name := "cursorBigI", fn := fun _ => fun
  | [d] => { results := [.lit (.bool false)], args := [d] }
  | _ => none }
def CursorBigIWrongFalsely : Prop := cursorBigIRow.holds Tryd.pinned (OpenSpec.ofChange cursorBigIWrong)

/-- 'beaconlaw10.CursorBigZ': WHATEVER THE INPUT: true; the input reads as it did. -/
def cursorBigZSpec : ChangeSpec := { name := "cursorBigZ", fn := fun _ => fun
  | [d] => { results := [.lit (.bool true)], args := [d] }
  | _ => none }
def cursorBigZRow : OpenClaim := { program := "ytgjpojaegjdjcabdoor", sum := "bccf6cbc5a95619d26b23f041e63dd77503149916e8d14fdee98ceb2ba5f8d35", func := "beacon/beaconlaw10.CursorBigZ", spec := "cursorBigZ", inPlace := ["internal/abi.NoEscape"], unfollowed := true, recurses := true, named := ["unicode/utf8.first", "unicode/utf8.acceptRanges"], apart := false, laid := [("unicode/utf8.acceptRanges", laid_unicode_utf8_acceptRanges), ("unicode/utf8.first", laid_unicode_utf8_first)] }
def CursorBigZSaid : Prop := cursorBigZRow.holds Tryd.pinned (OpenSpec.ofChange cursorBigZSpec)

/-- ITS FALSE NEIGHBOUR: 'it returns false'. Refute it at one input. -/
def cursorBigZWrong : ChangeSpec := { name := "cursorBigZ", fn := fun _ => fun
  | [d] => { results := [.lit (.bool false)], args := [d] }
  | _ => none }
def CursorBigZWrongFalsely : Prop := cursorBigZRow.holds Tryd.pinned (OpenSpec.ofChange cursorBigZWrong)

/-- 'beaconlaw10.CursorWithin': WHATEVER THE INPUT: true; the input reads as it did. -/
def cursorWithinSpec : ChangeSpec := { name := "cursorWithin", fn := fun _ => fun
  | [d] => { results := [.lit (.bool true)], args := [d] }
  | _ => none }
def cursorWithinRow : OpenClaim := { program := "ytgjpojaegjdjcabdoor", sum := "bccf6cbc5a95619d26b23f041e63dd77503149916e8d14fdee98ceb2ba5f8d35", func := "beacon/beaconlaw10.CursorWithin", spec := "cursorWithin", inPlace := ["internal/abi.NoEscape"], unfollowed := true, recurses := true, named := ["unicode/utf8.first", "unicode/utf8.acceptRanges"], apart := false, laid := [("unicode/utf8.acceptRanges", laid_unicode_utf8_acceptRanges), ("unicode/utf8.first", laid_unicode_utf8_first)] }
def CursorWithinSaid : Prop := cursorWithinRow.holds Tryd.pinned (OpenSpec.ofChange cursorWithinSpec)

/-- ITS FALSE NEIGHBOUR: 'it returns false'. Refute it at one input. -/
def cursorWithinWrong : ChangeSpec := { name := "cursorWithin", fn := fun _ => fun
  | [d] => { results := [.lit (.bool false)], args := [d] }
  | _ => none }
def CursorWithinWrongFalsely : Prop := cursorWithinRow.holds Tryd.pinned (OpenSpec.ofChange cursorWithinWrong)

/- THE SECOND FORM. 'bulk': how many values and letters a reading holds, each counted each time it is reached (what is shared counts as often as it is met; a slice's spare places count too). A statement '..UptoSaid' is the law's where the arguments, and the package variables that the reading takes, are together of bulk at most 1048576: NARROWER than '..Said'. Prove '..Said' where nothing that the law and all that it calls make is longer than what came in: it says more and counts as full. Else prove '..UptoSaid'. A law counts once. -/
mutual
def uptoBulk {H : Type} : DataW H → Nat
  | .lit (.string bytes) => bytes.length + 1
  | .lit _ => 1
  | .nil => 1
  | .ptr d => uptoBulk d + 1
  | .slice elems spare => uptoBulkAll elems + uptoBulkAll spare + 1
  | .agg parts => uptoBulkAll parts + 1
  | .iface _ d => uptoBulk d + 1
  | .map entries => uptoBulkEntries entries + 1
  | .held _ => 1
def uptoBulkAll {H : Type} : List (DataW H) → Nat
  | [] => 0
  | d :: r => uptoBulk d + uptoBulkAll r
def uptoBulkEntries {H : Type} : List (Lit × DataW H) → Nat
  | [] => 0
  | x :: r => uptoBulkEntry x + uptoBulkEntries r
def uptoBulkEntry {H : Type} : Lit × DataW H → Nat
  | (.string bytes, d) => bytes.length + uptoBulk d + 1
  | (_, d) => uptoBulk d + 1
 end
def uptoSmall : (H : Type) → List (DataW H) → Bool := fun _ ds => decide (uptoBulkAll ds ≤ 1048576)
def OpenSpec.upto (s : _root_.Go.ChangeSpec) : _root_.Go.OpenSpec := { _root_.Go.OpenSpec.ofChange s with cond := some uptoSmall }

/-- 'beaconlaw10.CursorBigD', WHERE WHAT IT READS IS OF BULK AT MOST 1048576: true; the input reads as it did. -/
def cursorBigDUptoRow : OpenClaim := { program := "ytgjpojaegjdjcabdoor", sum := "bccf6cbc5a95619d26b23f041e63dd77503149916e8d14fdee98ceb2ba5f8d35", func := "beacon/beaconlaw10.CursorBigD", spec := "cursorBigD", inPlace := ["internal/abi.NoEscape"], unfollowed := true, recurses := true, named := ["unicode/utf8.first", "unicode/utf8.acceptRanges"], apart := false, laid := [("unicode/utf8.acceptRanges", laid_unicode_utf8_acceptRanges), ("unicode/utf8.first", laid_unicode_utf8_first)], narrowed := true }
def CursorBigDUptoSaid : Prop := cursorBigDUptoRow.holds Tryd.pinned (OpenSpec.upto cursorBigDSpec)

/-- 'beaconlaw10.CursorBigE', WHERE WHAT IT READS IS OF BULK AT MOST 1048576: true; the input reads as it did. -/
def cursorBigEUptoRow : OpenClaim := { program := "ytgjpojaegjdjcabdoor", sum := "bccf6cbc5a95619d26b23f041e63dd77503149916e8d14fdee98ceb2ba5f8d35", func := "beacon/beaconlaw10.CursorBigE", spec := "cursorBigE", inPlace := ["internal/abi.NoEscape"], unfollowed := true, recurses := true, named := ["unicode/utf8.first", "unicode/utf8.acceptRanges"], apart := false, laid := [("unicode/utf8.acceptRanges", laid_unicode_utf8_acceptRanges), ("unicode/utf8.first", laid_unicode_utf8_first)], narrowed := true }
def CursorBigEUptoSaid : Prop := cursorBigEUptoRow.holds Tryd.pinned (OpenSpec.upto cursorBigESpec)

/-- 'beaconlaw10.CursorBigF', WHERE WHAT IT READS IS OF BULK AT MOST 1048576: true; the input reads as it did. -/
def cursorBigFUptoRow : OpenClaim := { program := "ytgjpojaegjdjcabdoor", sum := "bccf6cbc5a95619d26b23f041e63dd77503149916e8d14fdee98ceb2ba5f8d35", func := "beacon/beaconlaw10.CursorBigF", spec := "cursorBigF", inPlace := ["internal/abi.NoEscape"], unfollowed := true, recurses := true, named := ["unicode/utf8.first", "unicode/utf8.acceptRanges"], apart := false, laid := [("unicode/utf8.acceptRanges", laid_unicode_utf8_acceptRanges), ("unicode/utf8.first", laid_unicode_utf8_first)], narrowed := true }
def CursorBigFUptoSaid : Prop := cursorBigFUptoRow.holds Tryd.pinned (OpenSpec.upto cursorBigFSpec)

/-- 'beaconlaw10.CursorBigG', WHERE WHAT IT READS IS OF BULK AT MOST 1048576: true; the input reads as it did. -/
def cursorBigGUptoRow : OpenClaim := { program := "ytgjpojaegjdjcabdoor", sum := "bccf6cbc5a95619d26b23f041e63dd77503149916e8d14fdee98ceb2ba5f8d35", func := "beacon/beaconlaw10.CursorBigG", spec := "cursorBigG", inPlace := ["internal/abi.NoEscape"], unfollowed := true, recurses := true, named := ["unicode/utf8.first", "unicode/utf8.acceptRanges"], apart := false, laid := [("unicode/utf8.acceptRanges", laid_unicode_utf8_acceptRanges), ("unicode/utf8.first", laid_unicode_utf8_first)], narrowed := true }
def CursorBigGUptoSaid : Prop := cursorBigGUptoRow.holds Tryd.pinned (OpenSpec.upto cursorBigGSpec)

/-- 'beaconlaw10.CursorD', WHERE WHAT IT READS IS OF BULK AT MOST 1048576: true; the input reads as it did. -/
def cursorDUptoRow : OpenClaim := { program := "ytgjpojaegjdjcabdoor", sum := "bccf6cbc5a95619d26b23f041e63dd77503149916e8d14fdee98ceb2ba5f8d35", func := "beacon/beaconlaw10.CursorD", spec := "cursorD", inPlace := ["internal/abi.NoEscape"], unfollowed := true, recurses := true, named := ["unicode/utf8.first", "unicode/utf8.acceptRanges"], apart := false, laid := [("unicode/utf8.acceptRanges", laid_unicode_utf8_acceptRanges), ("unicode/utf8.first", laid_unicode_utf8_first)], narrowed := true }
def CursorDUptoSaid : Prop := cursorDUptoRow.holds Tryd.pinned (OpenSpec.upto cursorDSpec)

/-- 'beaconlaw10.CursorBigH', WHERE WHAT IT READS IS OF BULK AT MOST 1048576: true; the input reads as it did. -/
def cursorBigHUptoRow : OpenClaim := { program := "ytgjpojaegjdjcabdoor", sum := "bccf6cbc5a95619d26b23f041e63dd77503149916e8d14fdee98ceb2ba5f8d35", func := "beacon/beaconlaw10.CursorBigH", spec := "cursorBigH", inPlace := ["internal/abi.NoEscape"], unfollowed := true, recurses := true, named := ["unicode/utf8.first", "unicode/utf8.acceptRanges"], apart := false, laid := [("unicode/utf8.acceptRanges", laid_unicode_utf8_acceptRanges), ("unicode/utf8.first", laid_unicode_utf8_first)], narrowed := true }
def CursorBigHUptoSaid : Prop := cursorBigHUptoRow.holds Tryd.pinned (OpenSpec.upto cursorBigHSpec)

/-- 'beaconlaw10.CursorBigI', WHERE WHAT IT READS IS OF BULK AT MOST 1048576: true; the input reads as it did. -/
def cursorBigIUptoRow : OpenClaim := { program := "ytgjpojaegjdjcabdoor", sum := "bccf6cbc5a95619d26b23f041e63dd77503149916e8d14fdee98ceb2ba5f8d35", func := "beacon/beaconlaw10.CursorBigI", spec := "cursorBigI", inPlace := ["internal/abi.NoEscape"], unfollowed := true, recurses := true, named := ["unicode/utf8.first", "unicode/utf8.acceptRanges"], apart := false, laid := [("unicode/utf8.acceptRanges", laid_unicode_utf8_acceptRanges), ("unicode/utf8.first", laid_unicode_utf8_first)], narrowed := true }
def CursorBigIUptoSaid : Prop := cursorBigIUptoRow.holds Tryd.pinned (OpenSpec.upto cursorBigISpec)

/-- 'beaconlaw10.CursorBigZ', WHERE WHAT IT READS IS OF BULK AT MOST 1048576: true; the input reads as it did. -/
def cursorBigZUptoRow : OpenClaim := { program := "ytgjpojaegjdjcabdoor", sum := "bccf6cbc5a95619d26b23f041e63dd77503149916e8d14fdee98ceb2ba5f8d35", func := "beacon/beaconlaw10.CursorBigZ", spec := "cursorBigZ", inPlace := ["internal/abi.NoEscape"], unfollowed := true, recurses := true, named := ["unicode/utf8.first", "unicode/utf8.acceptRanges"], apart := false, laid := [("unicode/utf8.acceptRanges", laid_unicode_utf8_acceptRanges), ("unicode/utf8.first", laid_unicode_utf8_first)], narrowed := true }
def CursorBigZUptoSaid : Prop := cursorBigZUptoRow.holds Tryd.pinned (OpenSpec.upto cursorBigZSpec)

/-- 'beaconlaw10.CursorWithin', WHERE WHAT IT READS IS OF BULK AT MOST 1048576: true; the input reads as it did. -/
def cursorWithinUptoRow : OpenClaim := { program := "ytgjpojaegjdjcabdoor", sum := "bccf6cbc5a95619d26b23f041e63dd77503149916e8d14fdee98ceb2ba5f8d35", func := "beacon/beaconlaw10.CursorWithin", spec := "cursorWithin", inPlace := ["internal/abi.NoEscape"], unfollowed := true, recurses := true, named := ["unicode/utf8.first", "unicode/utf8.acceptRanges"], apart := false, laid := [("unicode/utf8.acceptRanges", laid_unicode_utf8_acceptRanges), ("unicode/utf8.first", laid_unicode_utf8_first)], narrowed := true }
def CursorWithinUptoSaid : Prop := cursorWithinUptoRow.holds Tryd.pinned (OpenSpec.upto cursorWithinSpec)

end Rows
end Go.Proofs.YtgjpojaegjdjcabDoor
