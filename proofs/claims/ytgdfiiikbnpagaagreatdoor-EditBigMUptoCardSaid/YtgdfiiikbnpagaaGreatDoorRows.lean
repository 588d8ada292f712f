/-
  NARROWER THAN 'FOR EVERY INPUT', by the rows' own cells (each row's printed sentence says how): EditErase: laid · EditCells: laid · EditRows: laid · EditScroll: laid · EditBeside: laid · EditBigJ: laid · EditBigK: laid · EditBigX: laid · EditBigP: laid · EditAt: laid · EditBigL: laid · EditBigM: laid · EditBigS: laid · EditBigT: laid.
  DERIVED. THE GIVEN ROWS OF THIS SEAT. 14 by the template 'for every input the law returns true; each argument reads behind the call as it read before'; 0 by the template 'total and deterministic' (their statements: YtgdfiiikbnpagaaGreatDoorTotals.lean).
  GIVEN WITH THE SEED: the statements are not yours to turn. If you find one false, say at which input.
  Laid BY PROGRAM, IN A SANDBOX (cutbox-rows.mjs): the forced cells as the released guide's own fill.sh prints them over the translation 2b686d6815bc90d5… (all of the seat's roots in one cut). By AI agents, Wed Nov 11 2026. No macro, syntax, notation, axiom, sorry.
-/
import Derived.Test.YtgdfiiikbnpagaaGreatDoorChecked
import GoSem.PinnedTables
import GoSem.Claim
import GoSem.ClaimJoined
import GoSem.ClaimMapViews
import Derived.JoinedTies
import Derived.KernelRfl
namespace Go.Proofs.YtgdfiiikbnpagaaGreatDoor
/- THE CELL 'sum', in the pinned program and in every row, IS THE sha256 OF THE DUMP (.gsa) THAT YtgdfiiikbnpagaaGreatDoorProg.lean LOADS. Nothing in Lean hashes anything: it is a label: what it is worth is what the hold of that sum in a sandbox is worth. -/
noncomputable def Tryz.pinned : Pinned := { name := "ytgdfiiikbnpagaagreatdoor", sum := "2b686d6815bc90d5376bdbb57dd0a2cb035b6f240ca8fbd2a062f5f4324433a0", checked := Tryz.checked }
namespace Rows
def none {H : Type} : Left H := { results := [], args := [] }

/- WHAT THE LISTED PACKAGE-LEVEL VARIABLES READ AS WHEN THE CALL BEGINS. Each datum BY PROGRAM (the guide's laid-datum.mjs) off the statement by which the dump's own 'gosem.cut.vars' lays the variable. In a bare row this is a premise. The card (YtgdfiiikbnpagaaGreatDoorCards.lean) ties it to the program's text. -/
def laid_unicode_utf8_acceptRanges {H : Type} : DataW H := .agg [.agg [.lit (.int .u8 128), .lit (.int .u8 191)], .agg [.lit (.int .u8 160), .lit (.int .u8 191)], .agg [.lit (.int .u8 128), .lit (.int .u8 159)], .agg [.lit (.int .u8 144), .lit (.int .u8 191)], .agg [.lit (.int .u8 128), .lit (.int .u8 143)], .agg [.lit (.int .u8 0), .lit (.int .u8 0)], .agg [.lit (.int .u8 0), .lit (.int .u8 0)], .agg [.lit (.int .u8 0), .lit (.int .u8 0)], .agg [.lit (.int .u8 0), .lit (.int .u8 0)], .agg [.lit (.int .u8 0), .lit (.int .u8 0)], .agg [.lit (.int .u8 0), .lit (.int .u8 0)], .agg [.lit (.int .u8 0), .lit (.int .u8 0)], .agg [.lit (.int .u8 0), .lit (.int .u8 0)], .agg [.lit (.int .u8 0), .lit (.int .u8 0)], .agg [.lit (.int .u8 0), .lit (.int .u8 0)], .agg [.lit (.int .u8 0), .lit (.int .u8 0)]]
/-- One of Go's own tables, pinned by name: the form's constant. -/
def laid_unicode_utf8_first : DataW Unit := Go.Pinned.utf8First

/-- 'beaconlaw11.EditErase': WHATEVER THE INPUT: true; the input reads as it did. -/
def editEraseSpec : ChangeSpec := { name := "editErase", fn := fun _ => fun
  | [d] => { results := [.lit (.bool true)], args := [d] }
  | _ => none }
def editEraseRow : OpenClaim := { program := "ytgdfiiikbnpagaagreatdoor", sum := "2b686d6815bc90d5376bdbb57dd0a2cb035b6f240ca8fbd2a062f5f4324433a0", func := "beacon/beaconlaw11.EditErase", spec := "editErase", unfollowed := true, recurses := true, named := ["unicode/utf8.first", "unicode/utf8.acceptRanges"], apart := false, laid := [("unicode/utf8.acceptRanges", laid_unicode_utf8_acceptRanges), ("unicode/utf8.first", laid_unicode_utf8_first)] }
def EditEraseSaid : Prop := editEraseRow.holds Tryz.pinned (OpenSpec.ofChange editEraseSpec)

/-- ITS FALSE NEIGHBOUR: 'it returns false'. Refute it at one input. -/
def editEraseWrong : ChangeSpec := { name := "editErase", fn := fun _ => fun
  | [d] => { results := [.lit (.bool false)], args := [d] }
  | _ => none }
def EditEraseWrongFalsely : Prop := editEraseRow.holds Tryz.pinned (OpenSpec.ofChange editEraseWrong)

/-- 'beaconlaw11.EditCells': WHATEVER THE INPUT: true; the input reads as it did. -/
def editCellsSpec : ChangeSpec := { name := "editCells", fn := fun _ => fun
  | [d] => { results := [.lit (.bool true)], args := [d] }
  | _ => none }
def editCellsRow : OpenClaim := { program := "ytgdfiiikbnpagaagreatdoor", sum := "2b686d6815bc90d5376bdbb57dd0a2cb035b6f240ca8fbd2a062f5f4324433a0", func := "beacon/beaconlaw11.EditCells", spec := "editCells", unfollowed := true, recurses := true, named := ["unicode/utf8.first", "unicode/utf8.acceptRanges"], apart := false, laid := [("unicode/utf8.acceptRanges", laid_unicode_utf8_acceptRanges), ("unicode/utf8.first", laid_unicode_utf8_first)] }
def EditCellsSaid : Prop := editCellsRow.holds Tryz.pinned (OpenSpec.ofChange editCellsSpec)

/-- ITS FALSE NEIGHBOUR: 'it returns false'. Refute it at one input. -/
def editCellsWrong : ChangeSpec := { name := "editCells", fn := fun _ => fun
  | [d] => { results := [.lit (.bool false)], args := [d] }
  | _ => none }
def EditCellsWrongFalsely : Prop := editCellsRow.holds Tryz.pinned (OpenSpec.ofChange editCellsWrong)

/-- 'beaconlaw11.EditRows': WHATEVER THE INPUT: true; the input reads as it did. -/
def editRowsSpec : ChangeSpec := { name := "editRows", fn := fun _ => fun
  | [d] => { results := [.lit (.bool true)], args := [d] }
  | _ => none }
def editRowsRow : OpenClaim := { program := "ytgdfiiikbnpagaagreatdoor", sum := "2b686d6815bc90d5376bdbb57dd0a2cb035b6f240ca8fbd2a062f5f4324433a0", func := "beacon/beaconlaw11.EditRows", spec := "editRows", unfollowed := true, recurses := true, named := ["unicode/utf8.first", "unicode/utf8.acceptRanges"], apart := false, laid := [("unicode/utf8.acceptRanges", laid_unicode_utf8_acceptRanges), ("unicode/utf8.first", laid_unicode_utf8_first)] }
def EditRowsSaid : Prop := editRowsRow.holds Tryz.pinned (OpenSpec.ofChange editRowsSpec)

/-- ITS FALSE NEIGHBOUR: 'it returns false'. Refute it at one input. -/
def editRowsWrong : ChangeSpec := { name := "editRows", fn := fun _ => fun
  | [d] => { results := [.lit (.bool false)], args := [d] }
  | _ => none }
def EditRowsWrongFalsely : Prop := editRowsRow.holds Tryz.pinned (OpenSpec.ofChange editRowsWrong)

/-- 'beaconlaw11.EditScroll': WHATEVER THE INPUT: true; the input reads as it did. -/
def editScrollSpec : ChangeSpec := { name := "editScroll", fn := fun _ => fun
  | [d] => { results := [.lit (.bool true)], args := [d] }
  | _ => none }
def editScrollRow : OpenClaim := { program := "ytgdfiiikbnpagaagreatdoor", sum := "2b686d6815bc90d5376bdbb57dd0a2cb035b6f240ca8fbd2a062f5f4324433a0", func := "beacon/beaconlaw11.EditScroll", spec := "editScroll", unfollowed := true, recurses := true, named := ["unicode/utf8.first", "unicode/utf8.acceptRanges"], apart := false, laid := [("unicode/utf8.acceptRanges", laid_unicode_utf8_acceptRanges), ("unicode/utf8.first", laid_unicode_utf8_first)] }
def EditScrollSaid : Prop := editScrollRow.holds Tryz.pinned (OpenSpec.ofChange editScrollSpec)

/-- ITS FALSE NEIGHBOUR: 'it returns false'. Refute it at one input. -/
def editScrollWrong : ChangeSpec := { name := "editScroll", fn := fun _ => fun
  | [d] => { results := [.lit (.bool false)], args := [d] }
  | _ => none }
def EditScrollWrongFalsely : Prop := editScrollRow.holds Tryz.pinned (OpenSpec.ofChange editScrollWrong)

/-- 'beaconlaw11.EditBeside': WHATEVER THE INPUT: true; the input reads as it did. -/
def editBesideSpec : ChangeSpec := { name := "editBeside", fn := fun _ => fun
  | [d] => { results := [.lit (.bool true)], args := [d] }
  | _ => none }
def editBesideRow : OpenClaim := { program := "ytgdfiiikbnpagaagreatdoor", sum := "2b686d6815bc90d5376bdbb57dd0a2cb035b6f240ca8fbd2a062f5f4324433a0", func := "beacon/beaconlaw11.EditBeside", spec := "editBeside", unfollowed := true, recurses := true, named := ["unicode/utf8.first", "unicode/utf8.acceptRanges"], apart := false, laid := [("unicode/utf8.acceptRanges", laid_unicode_utf8_acceptRanges), ("unicode/utf8.first", laid_unicode_utf8_first)] }
def EditBesideSaid : Prop := editBesideRow.holds Tryz.pinned (OpenSpec.ofChange editBesideSpec)

/-- ITS FALSE NEIGHBOUR: 'it returns false'. Refute it at one input. -/
def editBesideWrong : ChangeSpec := { name := "editBeside", fn := fun _ => fun
  | [d] => { results := [.lit (.bool false)], args := [d] }
  | _ => none }
def EditBesideWrongFalsely : Prop := editBesideRow.holds Tryz.pinned (OpenSpec.ofChange editBesideWrong)

/-- 'beaconlaw11.EditBigJ': WHATEVER THE INPUT: true; the input reads as it did. -/
def editBigJSpec : ChangeSpec := { name := "editBigJ", fn := fun _ => fun
  | [d] => { results := [.lit (.bool true)], args := [d] }
  | _ => none }
def editBigJRow : OpenClaim := { program := "ytgdfiiikbnpagaagreatdoor", sum := "2b686d6815bc90d5376bdbb57dd0a2cb035b6f240ca8fbd2a062f5f4324433a0", func := "beacon/beaconlaw11.EditBigJ", spec := "editBigJ", unfollowed := true, recurses := true, named := ["unicode/utf8.first", "unicode/utf8.acceptRanges"], apart := false, laid := [("unicode/utf8.acceptRanges", laid_unicode_utf8_acceptRanges), ("unicode/utf8.first", laid_unicode_utf8_first)] }
def EditBigJSaid : Prop := editBigJRow.holds Tryz.pinned (OpenSpec.ofChange editBigJSpec)

/-- ITS FALSE NEIGHBOUR: 'it returns false'. Refute it at one input. -/
def editBigJWrong : ChangeSpec := { name := "editBigJ", fn := fun _ => fun
  | [d] => { results := [.lit (.bool false)], args := [d] }
  | _ => none }
def EditBigJWrongFalsely : Prop := editBigJRow.holds Tryz.pinned (OpenSpec.ofChange editBigJWrong)

/-- 'beaconlaw11.EditBigK': WHATEVER THE INPUT: true; the input reads as it did. -/
def editBigKSpec : ChangeSpec := { name := "editBigK", fn := fun _ => fun
  | [d] => { results := [.lit (.bool true)], args := [d] }
  | _ => none }
def editBigKRow : OpenClaim := { program := "ytgdfiiikbnpagaagreatdoor", sum := "2b686d6815bc90d5376bdbb57dd0a2cb035b6f240ca8fbd2a062f5f4324433a0", func := "beacon/beaconlaw11.EditBigK", spec := "editBigK", unfollowed := true, recurses := true, named := ["unicode/utf8.first", "unicode/utf8.acceptRanges"], apart := false, laid := [("unicode/utf8.acceptRanges", laid_unicode_utf8_acceptRanges), ("unicode/utf8.first", laid_unicode_utf8_first)] }
def EditBigKSaid : Prop := editBigKRow.holds Tryz.pinned (OpenSpec.ofChange editBigKSpec)

/-- ITS FALSE NEIGHBOUR: 'it returns false'. Refute it at one input. -/
def editBigKWrong : ChangeSpec := { name := "editBigK", fn := fun _ => fun
  | [d] => { results := [.lit (.bool false)], args := [d] }
  | _ => none }
def EditBigKWrongFalsely : Prop := editBigKRow.holds Tryz.pinned (OpenSpec.ofChange editBigKWrong)

/-- 'beaconlaw11.EditBigX': WHATEVER THE INPUT: true; the input reads as it did. -/
def editBigXSpec : ChangeSpec := { name := "editBigX", fn := fun _ => fun
  | [d] => { results := [.lit (.bool true)], args := [d] }
  | _ => none }
def editBigXRow : OpenClaim := { program := "ytgdfiiikbnpagaagreatdoor", sum := "2b686d6815bc90d5376bdbb57dd0a2cb035b6f240ca8fbd2a062f5f4324433a0", func := "beacon/beaconlaw11.EditBigX", spec := "editBigX", unfollowed := true, recurses := true, named := ["unicode/utf8.first", "unicode/utf8.acceptRanges"], apart := false, laid := [("unicode/utf8.acceptRanges", laid_unicode_utf8_acceptRanges), ("unicode/utf8.first", laid_unicode_utf8_first)] }
def EditBigXSaid : Prop := editBigXRow.holds Tryz.pinned (OpenSpec.ofChange editBigXSpec)

/-- ITS FALSE NEIGHBOUR: 'it returns false'. Refute it at one input. -/
def editBigXWrong : ChangeSpec := { name := "editBigX", fn := fun _ => fun
  | [d] => { results := [.lit (.bool false)], args := [d] }
  | _ => none }
def EditBigXWrongFalsely : Prop := editBigXRow.holds Tryz.pinned (OpenSpec.ofChange editBigXWrong)

/-- 'beaconlaw11.EditBigP': WHATEVER THE INPUT: true; the input reads as it did. -/
def editBigPSpec : ChangeSpec := { name := "editBigP", fn := fun _ => fun
  | [d] => { results := [.lit (.bool true)], args := [d] }
  | _ => none }
def editBigPRow : OpenClaim := { program := "ytgdfiiikbnpagaagreatdoor", sum := "2b686d6815bc90d5376bdbb57dd0a2cb035b6f240ca8fbd2a062f5f4324433a0", func := "beacon/beaconlaw11.EditBigP", spec := "editBigP", unfollowed := true, recurses := true, named := ["unicode/utf8.first", "unicode/utf8.acceptRanges"], apart := false, laid := [("unicode/utf8.acceptRanges", laid_unicode_utf8_acceptRanges), ("unicode/utf8.first", laid_unicode_utf8_first)] }
def EditBigPSaid : Prop := editBigPRow.holds Tryz.pinned (OpenSpec.ofChange editBigPSpec)

/-- ITS FALSE NEIGHBOUR: 'it returns false'. Refute it at one input. -/
def editBigPWrong : ChangeSpec := { name := "editBigP", fn := fun _ => fun
  | [d] => { results := [.lit (.bool false)], args := [d] }
  | _ => none }
def EditBigPWrongFalsely : Prop := editBigPRow.holds Tryz.pinned (OpenSpec.ofChange editBigPWrong)

/-- 'beaconlaw11.EditAt': WHATEVER THE INPUT: true; the input reads as it did. -/
def editAtSpec : ChangeSpec := { name := "editAt", fn := fun _ => fun
  | [d] => { results := [.lit (.bool true)], args := [d] }
  | _ => none }
def editAtRow : OpenClaim := { program := "ytgdfiiikbnpagaagreatdoor", sum := "2b686d6815bc90d5376bdbb57dd0a2cb035b6f240ca8fbd2a062f5f4324433a0", func := "beacon/beaconlaw11.EditAt", spec := "editAt", unfollowed := true, recurses := true, named := ["unicode/utf8.first", "unicode/utf8.acceptRanges"], apart := false, laid := [("unicode/utf8.acceptRanges", laid_unicode_utf8_acceptRanges), ("unicode/utf8.first", laid_unicode_utf8_first)] }
def EditAtSaid : Prop := editAtRow.holds Tryz.pinned (OpenSpec.ofChange editAtSpec)

/-- ITS FALSE NEIGHBOUR: 'it returns false'. Refute it at one input. -/
def editAtWrong : ChangeSpec := { name := "editAt", fn := fun _ => fun
  | [d] => { results := [.lit (.bool false)], args := [d] }
  | _ => none }
def EditAtWrongFalsely : Prop := editAtRow.holds Tryz.pinned (OpenSpec.ofChange editAtWrong)

/-- 'beaconlaw11.EditBigL': WHATEVER THE INPUT: true; the input reads as it did. -/
def editBigLSpec : ChangeSpec := { name := "editBigL", fn := fun _ => fun
  | [d] => { results := [.lit (.bool true)], args := [d] }
  | _ => none }
def editBigLRow : OpenClaim := { program := "ytgdfiiikbnpagaagreatdoor", sum := "2b686d6815bc90d5376bdbb57dd0a2cb035b6f240ca8fbd2a062f5f4324433a0", func := "beacon/beaconlaw11.EditBigL", spec := "editBigL", unfollowed := true, recurses := true, named := ["unicode/utf8.first", "unicode/utf8.acceptRanges"], apart := false, laid := [("unicode/utf8.acceptRanges", laid_unicode_utf8_acceptRanges), ("unicode/utf8.first", laid_unicode_utf8_first)] }
def EditBigLSaid : Prop := editBigLRow.holds Tryz.pinned (OpenSpec.ofChange editBigLSpec)

/-- ITS FALSE NEIGHBOUR: 'it returns false'. Refute it at one input. -/
def editBigLWrong : ChangeSpec := { name := "editBigL", fn := fun _ => fun
  | [d] => { results := [.lit (.bool false)], args := [d] }
  | _ => none }
def EditBigLWrongFalsely : Prop := editBigLRow.holds Tryz.pinned (OpenSpec.ofChange editBigLWrong)

/-- 'beaconlaw11.EditBigM': WHATEVER THE INPUT: true; the input reads as it did. -/
def editBigMSpec : ChangeSpec := { name := "editBigM", fn := fun _ => fun
  | [d] => { results := [.lit (.bool true)], args := [d] }
  | _ => none }
def editBigMRow : OpenClaim := { program := "ytgdfiiikbnpagaagreatdoor", sum := "2b686d6815bc90d5376bdbb57dd0a2cb035b6f240ca8fbd2a062f5f4324433a0", func := "beacon/beaconlaw11.EditBigM", spec := "editBigM", unfollowed := true, recurses := true, named := ["unicode/utf8.first", "unicode/utf8.acceptRanges"], apart := false, laid := [("unicode/utf8.acceptRanges", laid_unicode_utf8_acceptRanges), ("unicode/utf8.first", laid_unicode_utf8_first)] }
def EditBigMSaid : Prop := editBigMRow.holds Tryz.pinned (OpenSpec.ofChange editBigMSpec)

/-- ITS FALSE NEIGHBOUR: 'it returns false'. Refute it at one input. -/
def editBigMWrong : ChangeSpec := { name := "editBigM", fn := fun _ => fun
  | [d] => { results := [.lit (.bool false)], args := [d] }
  | _ => none }
def EditBigMWrongFalsely : Prop := editBigMRow.holds Tryz.pinned (OpenSpec.ofChange editBigMWrong)

/-- 'beaconlaw11.EditBigS': WHATEVER THE INPUT: true; the input reads as it did. -/
def editBigSSpec : ChangeSpec := { name := "editBigS", fn := fun _ => fun
  | [d] => { results := [.lit (.bool true)], args := [d] }
  | _ => none }
def editBigSRow : OpenClaim := { program := "ytgdfiiikbnpagaagreatdoor", sum := "2b686d6815bc90d5376bdbb57dd0a2cb035b6f240ca8fbd2a062f5f4324433a0", func := "beacon/beaconlaw11.EditBigS", spec := "editBigS", unfollowed := true, recurses := true, named := ["unicode/utf8.first", "unicode/utf8.acceptRanges"], apart := false, laid := [("unicode/utf8.acceptRanges", laid_unicode_utf8_acceptRanges), ("unicode/utf8.first", laid_unicode_utf8_first)] }
def EditBigSSaid : Prop := editBigSRow.holds Tryz.pinned (OpenSpec.ofChange editBigSSpec)

/-- ITS FALSE NEIGHBOUR: 'it returns false'. Refute it at one input. -/
def editBigSWrong : ChangeSpec := { name := "editBigS", fn := fun _ => fun
  | [d] => { results := [.lit (.bool false)], args := [d] }
  | _ => none }
def EditBigSWrongFalsely : Prop := editBigSRow.holds Tryz.pinned (OpenSpec.ofChange editBigSWrong)

/-- 'beaconlaw11.EditBigT': WHATEVER THE INPUT: true; the input reads as it did. -/
def editBigTSpec : ChangeSpec := { name := "editBigT", fn := fun _ => fun
  | [d] => { results := [.lit (.bool true)], args := [d] }
  | _ => none }
def editBigTRow : OpenClaim := { program := "ytgdfiiikbnpagaagreatdoor", sum := "2b686d6815bc90d5376bdbb57dd0a2cb035b6f240ca8fbd2a062f5f4324433a0", func := "beacon/beaconlaw11.EditBigT", spec := "editBigT", unfollowed := true, recurses := true, named := ["unicode/utf8.first", "unicode/utf8.acceptRanges"], apart := false, laid := [("unicode/utf8.acceptRanges", laid_unicode_utf8_acceptRanges), ("unicode/utf8.first", laid_unicode_utf8_first)] }
def EditBigTSaid : Prop := editBigTRow.holds Tryz.pinned (OpenSpec.ofChange editBigTSpec)

/-- ITS FALSE NEIGHBOUR: 'it returns false'. Refute it at one input. -/
def editBigTWrong : ChangeSpec := { name := "editBigT", fn := fun _ => fun
  | [d] => { results := [.lit (.bool false)], args := [d] }
  | _ => none }
def EditBigTWrongFalsely : Prop := editBigTRow.holds Tryz.pinned (OpenSpec.ofChange editBigTWrong)

/- THE SECOND FORM. 'bulk': how many values and letters a reading holds, each counted each time it is reached (what is shared counts as often as it is met; a slice's spare places count too). A statement '..UptoSaid' is the law's where the arguments, and the package variables that the reading takes, are together of bulk at most 1048576: NARROWER than '..Said'. Prove '..Said' where nothing that the law and all that it calls make is longer than what came in: it says more and counts as full. Else prove '..UptoSaid'. A law counts once. -/
mutual
def uptoBulk {H : Type} : DataW H → Nat
  | .lit (.string bytes) => bytes.length + 1
  | .lit _ => 1
  | .nil => 1
  | .ptr d => uptoBulk d + 1
  | .slice elems spare => uptoBulkAll elems + uptoBulkAll spare + 1
  | .agg parts => uptoBulkAll parts + 1
  | .iface _ d => uptoBulk d + 1
  | .map entries => uptoBulkEntries entries + 1
  | .held _ => 1
def uptoBulkAll {H : Type} : List (DataW H) → Nat
  | [] => 0
  | d :: r => uptoBulk d + uptoBulkAll r
def uptoBulkEntries {H : Type} : List (Lit × DataW H) → Nat
  | [] => 0
  | x :: r => uptoBulkEntry x + uptoBulkEntries r
def uptoBulkEntry {H : Type} : Lit × DataW H → Nat
  | (.string bytes, d) => bytes.length + uptoBulk d + 1
  | (_, d) => uptoBulk d + 1
 end
def uptoSmall : (H : Type) → List (DataW H) → Bool := fun _ ds => decide (uptoBulkAll ds ≤ 1048576)
def OpenSpec.upto (s : _root_.Go.ChangeSpec) : _root_.Go.OpenSpec := { _root_.Go.OpenSpec.ofChange s with cond := some uptoSmall }

/-- 'beaconlaw11.EditErase', WHERE WHAT IT READS IS OF BULK AT MOST 1048576: true; the input reads as it did. -/
def editEraseUptoRow : OpenClaim := { program := "ytgdfiiikbnpagaagreatdoor", sum := "2b686d6815bc90d5376bdbb57dd0a2cb035b6f240ca8fbd2a062f5f4324433a0", func := "beacon/beaconlaw11.EditErase", spec := "editErase", unfollowed := true, recurses := true, named := ["unicode/utf8.first", "unicode/utf8.acceptRanges"], apart := false, laid := [("unicode/utf8.acceptRanges", laid_unicode_utf8_acceptRanges), ("unicode/utf8.first", laid_unicode_utf8_first)], narrowed := true }
def EditEraseUptoSaid : Prop := editEraseUptoRow.holds Tryz.pinned (OpenSpec.upto editEraseSpec)

/-- 'beaconlaw11.EditCells', WHERE WHAT IT READS IS OF BULK AT MOST 1048576: true; the input reads as it did. -/
def editCellsUptoRow : OpenClaim := { program := "ytgdfiiikbnpagaagreatdoor", sum := "2b686d6815bc90d5376bdbb57dd0a2cb035b6f240ca8fbd2a062f5f4324433a0", func := "beacon/beaconlaw11.EditCells", spec := "editCells", unfollowed := true, recurses := true, named := ["unicode/utf8.first", "unicode/utf8.acceptRanges"], apart := false, laid := [("unicode/utf8.acceptRanges", laid_unicode_utf8_acceptRanges), ("unicode/utf8.first", laid_unicode_utf8_first)], narrowed := true }
def EditCellsUptoSaid : Prop := editCellsUptoRow.holds Tryz.pinned (OpenSpec.upto editCellsSpec)

/-- 'beaconlaw11.EditRows', WHERE WHAT IT READS IS OF BULK AT MOST 1048576: true; the input reads as it did. -/
def editRowsUptoRow : OpenClaim := { program := "ytgdfiiikbnpagaagreatdoor", sum := "2b686d6815bc90d5376bdbb57dd0a2cb035b6f240ca8fbd2a062f5f4324433a0", func := "beacon/beaconlaw11.EditRows", spec := "editRows", unfollowed := true, recurses := true, named := ["unicode/utf8.first", "unicode/utf8.acceptRanges"], apart := false, laid := [("unicode/utf8.acceptRanges", laid_unicode_utf8_acceptRanges), ("unicode/utf8.first", laid_unicode_utf8_first)], narrowed := true }
def EditRowsUptoSaid : Prop := editRowsUptoRow.holds Tryz.pinned (OpenSpec.upto editRowsSpec)

/-- 'beaconlaw11.EditScroll', WHERE WHAT IT READS IS OF BULK AT MOST 1048576: true; the input reads as it did. -/
def editScrollUptoRow : OpenClaim := { program := "ytgdfiiikbnpagaagreatdoor", sum := "2b686d6815bc90d5376bdbb57dd0a2cb035b6f240ca8fbd2a062f5f4324433a0", func := "beacon/beaconlaw11.EditScroll", spec := "editScroll", unfollowed := true, recurses := true, named := ["unicode/utf8.first", "unicode/utf8.acceptRanges"], apart := false, laid := [("unicode/utf8.acceptRanges", laid_unicode_utf8_acceptRanges), ("unicode/utf8.first", laid_unicode_utf8_first)], narrowed := true }
def EditScrollUptoSaid : Prop := editScrollUptoRow.holds Tryz.pinned (OpenSpec.upto editScrollSpec)

/-- 'beaconlaw11.EditBeside', WHERE WHAT IT READS IS OF BULK AT MOST 1048576: true; the input reads as it did. -/
def editBesideUptoRow : OpenClaim := { program := "ytgdfiiikbnpagaagreatdoor", sum := "2b686d6815bc90d5376bdbb57dd0a2cb035b6f240ca8fbd2a062f5f4324433a0", func := "beacon/beaconlaw11.EditBeside", spec := "editBeside", unfollowed := true, recurses := true, named := ["unicode/utf8.first", "unicode/utf8.acceptRanges"], apart := false, laid := [("unicode/utf8.acceptRanges", laid_unicode_utf8_acceptRanges), ("unicode/utf8.first", laid_unicode_utf8_first)], narrowed := true }
def EditBesideUptoSaid : Prop := editBesideUptoRow.holds Tryz.pinned (OpenSpec.upto editBesideSpec)

/-- 'beaconlaw11.EditBigJ', WHERE WHAT IT READS IS OF BULK AT MOST 1048576: true; the input reads as it did. -/
def editBigJUptoRow : OpenClaim := { program := "ytgdfiiikbnpagaagreatdoor", sum := "2b686d6815bc90d5376bdbb57dd0a2cb035b6f240ca8fbd2a062f5f4324433a0", func := "beacon/beaconlaw11.EditBigJ", spec := "editBigJ", unfollowed := true, recurses := true, named := ["unicode/utf8.first", "unicode/utf8.acceptRanges"], apart := false, laid := [("unicode/utf8.acceptRanges", laid_unicode_utf8_acceptRanges), ("unicode/utf8.first", laid_unicode_utf8_first)], narrowed := true }
def EditBigJUptoSaid : Prop := editBigJUptoRow.holds Tryz.pinned (OpenSpec.upto editBigJSpec)

/-- 'beaconlaw11.EditBigK', WHERE WHAT IT READS IS OF BULK AT MOST 1048576: true; the input reads as it did. -/
def editBigKUptoRow : OpenClaim := { program := "ytgdfiiikbnpagaagreatdoor", sum := "2b686d6815bc90d5376bdbb57dd0a2cb035b6f240ca8fbd2a062f5f4324433a0", func := "beacon/beaconlaw11.EditBigK", spec := "editBigK", unfollowed := true, recurses := true, named := ["unicode/utf8.first", "unicode/utf8.acceptRanges"], apart := false, laid := [("unicode/utf8.acceptRanges", laid_unicode_utf8_acceptRanges), ("unicode/utf8.first", laid_unicode_utf8_first)], narrowed := true }
def EditBigKUptoSaid : Prop := editBigKUptoRow.holds Tryz.pinned (OpenSpec.upto editBigKSpec)

/-- 'beaconlaw11.EditBigX', WHERE WHAT IT READS IS OF BULK AT MOST 1048576: true; the input reads as it did. -/
def editBigXUptoRow : OpenClaim := { program := "ytgdfiiikbnpagaagreatdoor", sum := "2b686d6815bc90d5376bdbb57dd0a2cb035b6f240ca8fbd2a062f5f4324433a0", func := "beacon/beaconlaw11.EditBigX", spec := "editBigX", unfollowed := true, recurses := true, named := ["unicode/utf8.first", "unicode/utf8.acceptRanges"], apart := false, laid := [("unicode/utf8.acceptRanges", laid_unicode_utf8_acceptRanges), ("unicode/utf8.first", laid_unicode_utf8_first)], narrowed := true }
def EditBigXUptoSaid : Prop := editBigXUptoRow.holds Tryz.pinned (OpenSpec.upto editBigXSpec)

/-- 'beaconlaw11.EditBigP', WHERE WHAT IT READS IS OF BULK AT MOST 1048576: true; the input reads as it did. -/
def editBigPUptoRow : OpenClaim := { program := "ytgdfiiikbnpagaagreatdoor", sum := "2b686d6815bc90d5376bdbb57dd0a2cb035b6f240ca8fbd2a062f5f4324433a0", func := "beacon/beaconlaw11.EditBigP", spec := "editBigP", unfollowed := true, recurses := true, named := ["unicode/utf8.first", "unicode/utf8.acceptRanges"], apart := false, laid := [("unicode/utf8.acceptRanges", laid_unicode_utf8_acceptRanges), ("unicode/utf8.first", laid_unicode_utf8_first)], narrowed := true }
def EditBigPUptoSaid : Prop := editBigPUptoRow.holds Tryz.pinned (OpenSpec.upto editBigPSpec)

/-- 'beaconlaw11.EditAt', WHERE WHAT IT READS IS OF BULK AT MOST 1048576: true; the input reads as it did. -/
def editAtUptoRow : OpenClaim := { program := "ytgdfiiikbnpagaagreatdoor", sum := "2b686d6815bc90d5376bdbb57dd0a2cb035b6f240ca8fbd2a062f5f4324433a0", func := "beacon/beaconlaw11.EditAt", spec := "editAt", unfollowed := true, recurses := true, named := ["unicode/utf8.first", "unicode/utf8.acceptRanges"], apart := false, laid := [("unicode/utf8.acceptRanges", laid_unicode_utf8_acceptRanges), ("unicode/utf8.first", laid_unicode_utf8_first)], narrowed := true }
def EditAtUptoSaid : Prop := editAtUptoRow.holds Tryz.pinned (OpenSpec.upto editAtSpec)

/-- 'beaconlaw11.EditBigL', WHERE WHAT IT READS IS OF BULK AT MOST 1048576: true; the input reads as it did. -/
def editBigLUptoRow : OpenClaim := { program := "ytgdfiiikbnpagaagreatdoor", sum := "2b686d6815bc90d5376bdbb57dd0a2cb035b6f240ca8fbd2a062f5f4324433a0", func := "beacon/beaconlaw11.EditBigL", spec := "editBigL", unfollowed := true, recurses := true, named := ["unicode/utf8.first", "unicode/utf8.acceptRanges"], apart := false, laid := [("unicode/utf8.acceptRanges", laid_unicode_utf8_acceptRanges), ("unicode/utf8.first", laid_unicode_utf8_first)], narrowed := true }
def EditBigLUptoSaid : Prop := editBigLUptoRow.holds Tryz.pinned (OpenSpec.upto editBigLSpec)

/-- 'beaconlaw11.EditBigM', WHERE WHAT IT READS IS OF BULK AT MOST 1048576: true; the input reads as it did. -/
def editBigMUptoRow : OpenClaim := { program := "ytgdfiiikbnpagaagreatdoor", sum := "2b686d6815bc90d5376bdbb57dd0a2cb035b6f240ca8fbd2a062f5f4324433a0", func := "beacon/beaconlaw11.EditBigM", spec := "editBigM", unfollowed := true, recurses := true, named := ["unicode/utf8.first", "unicode/utf8.acceptRanges"], apart := false, laid := [("unicode/utf8.acceptRanges", laid_unicode_utf8_acceptRanges), ("unicode/utf8.first", laid_unicode_utf8_first)], narrowed := true }
def EditBigMUptoSaid : Prop := editBigMUptoRow.holds Tryz.pinned (OpenSpec.upto editBigMSpec)

/-- 'beaconlaw11.EditBigS', WHERE WHAT IT READS IS OF BULK AT MOST 1048576: true; the input reads as it did. -/
def editBigSUptoRow : OpenClaim := { program := "ytgdfiiikbnpagaagreatdoor", sum := "2b686d6815bc90d5376bdbb57dd0a2cb035b6f240ca8fbd2a062f5f4324433a0", func := "beacon/beaconlaw11.EditBigS", spec := "editBigS", unfollowed := true, recurses := true, named := ["unicode/utf8.first", "unicode/utf8.acceptRanges"], apart := false, laid := [("unicode/utf8.acceptRanges", laid_unicode_utf8_acceptRanges), ("unicode/utf8.first", laid_unicode_utf8_first)], narrowed := true }
def EditBigSUptoSaid : Prop := editBigSUptoRow.holds Tryz.pinned (OpenSpec.upto editBigSSpec)

/-- 'beaconlaw11.EditBigT', WHERE WHAT IT READS IS OF BULK AT MOST 1048576: true; the input reads as it did. -/
def editBigTUptoRow : OpenClaim := { program := "ytgdfiiikbnpagaagreatdoor", sum := "2b686d6815bc90d5376bdbb57dd0a2cb035b6f240ca8fbd2a062f5f4324433a0", func := "beacon/beaconlaw11.EditBigT", spec := "editBigT", unfollowed := true, recurses := true, named := ["unicode/utf8.first", "unicode/utf8.acceptRanges"], apart := false, laid := [("unicode/utf8.acceptRanges", laid_unicode_utf8_acceptRanges), ("unicode/utf8.first", laid_unicode_utf8_first)], narrowed := true }
def EditBigTUptoSaid : Prop := editBigTUptoRow.holds Tryz.pinned (OpenSpec.upto editBigTSpec)

end Rows
end Go.Proofs.YtgdfiiikbnpagaaGreatDoor
