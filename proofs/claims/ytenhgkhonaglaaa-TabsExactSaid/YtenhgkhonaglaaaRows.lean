/-
  No cell of these rows narrows 'for every input' (looked for: loops, veiled, ifaces, maps, wideKeys, modest, calm, conditions, laid).
  DERIVED. THE GIVEN ROWS OF THIS SEAT. 3 by the template 'for every input the law returns true; each argument reads behind the call as it read before'; 0 by the template 'total and deterministic' (their statements: YtenhgkhonaglaaaTotals.lean).
  GIVEN WITH THE SEED: the statements are not yours to turn. If you find one false, say at which input.
  Laid BY PROGRAM, IN A SANDBOX (cutbox-rows.mjs): the forced cells as the released guide's own fill.sh prints them over the translation a211d50c4f89bfe9… (all of the seat's roots in one cut). By AI agents, Wed Nov 11 2026. No macro, syntax, notation, axiom, sorry.
-/
import Derived.Test.YtenhgkhonaglaaaChecked
import GoSem.Claim
import GoSem.ClaimJoined
import GoSem.ClaimMapViews
import Derived.JoinedTies
import Derived.KernelRfl
namespace Go.Proofs.Ytenhgkhonaglaaa
/- THE CELL 'sum', in the pinned program and in every row, IS THE sha256 OF THE DUMP (.gsa) THAT YtenhgkhonaglaaaProg.lean LOADS. Nothing in Lean hashes anything: it is a label: what it is worth is what the hold of that sum in a sandbox is worth. -/
noncomputable def Try.pinned : Pinned := { name := "ytenhgkhonaglaaa", sum := "a211d50c4f89bfe9db225249a83237cc86327387524ad3ed6c54dde184162d10", checked := Try.checked }
namespace Rows
def none {H : Type} : Left H := { results := [], args := [] }

/-- 'beaconlaw6.GridBack': WHATEVER THE INPUT: true; the input reads as it did. -/
def gridBackSpec : ChangeSpec := { name := "gridBack", fn := fun _ => fun
  | [d] => { results := [.lit (.bool true)], args := [d] }
  | _ => none }
def gridBackRow : OpenClaim := { program := "ytenhgkhonaglaaa", sum := "a211d50c4f89bfe9db225249a83237cc86327387524ad3ed6c54dde184162d10", func := "beacon/beaconlaw6.GridBack", spec := "gridBack", unfollowed := true, recurses := true, apart := false }
def GridBackSaid : Prop := gridBackRow.holds Try.pinned (OpenSpec.ofChange gridBackSpec)

/-- ITS FALSE NEIGHBOUR: 'it returns false'. Refute it at one input. -/
def gridBackWrong : ChangeSpec := { name := "gridBack", fn := fun _ => fun
  | [d] => { results := [.lit (.bool false)], args := [d] }
  | _ => none }
def GridBackWrongFalsely : Prop := gridBackRow.holds Try.pinned (OpenSpec.ofChange gridBackWrong)

/-- 'beaconlaw7.TabsExact': WHATEVER THE INPUT: true; the input reads as it did. -/
def tabsExactSpec : ChangeSpec := { name := "tabsExact", fn := fun _ => fun
  | [d] => { results := [.lit (.bool true)], args := [d] }
  | _ => none }
def tabsExactRow : OpenClaim := { program := "ytenhgkhonaglaaa", sum := "a211d50c4f89bfe9db225249a83237cc86327387524ad3ed6c54dde184162d10", func := "beacon/beaconlaw7.TabsExact", spec := "tabsExact", inPlace := ["internal/abi.NoEscape"], apart := false }
def TabsExactSaid : Prop := tabsExactRow.holds Try.pinned (OpenSpec.ofChange tabsExactSpec)

/-- ITS FALSE NEIGHBOUR: 'it returns false'. Refute it at one input. -/
def tabsExactWrong : ChangeSpec := { name := "tabsExact", fn := fun _ => fun
  | [d] => { results := [.lit (.bool false)], args := [d] }
  | _ => none }
def TabsExactWrongFalsely : Prop := tabsExactRow.holds Try.pinned (OpenSpec.ofChange tabsExactWrong)

/-- 'beaconlaw7.TabsNext': WHATEVER THE INPUT: true; the input reads as it did. -/
def tabsNextSpec : ChangeSpec := { name := "tabsNext", fn := fun _ => fun
  | [d] => { results := [.lit (.bool true)], args := [d] }
  | _ => none }
def tabsNextRow : OpenClaim := { program := "ytenhgkhonaglaaa", sum := "a211d50c4f89bfe9db225249a83237cc86327387524ad3ed6c54dde184162d10", func := "beacon/beaconlaw7.TabsNext", spec := "tabsNext", inPlace := ["internal/abi.NoEscape"], apart := false }
def TabsNextSaid : Prop := tabsNextRow.holds Try.pinned (OpenSpec.ofChange tabsNextSpec)

/-- ITS FALSE NEIGHBOUR: 'it returns false'. Refute it at one input. -/
def tabsNextWrong : ChangeSpec := { name := "tabsNext", fn := fun _ => fun
  | [d] => { results := [.lit (.bool false)], args := [d] }
  | _ => none }
def TabsNextWrongFalsely : Prop := tabsNextRow.holds Try.pinned (OpenSpec.ofChange tabsNextWrong)

/- THE SECOND FORM. 'bulk': how many values and letters a reading holds, each counted each time it is reached (what is shared counts as often as it is met; a slice's spare places count too). A statement '..UptoSaid' is the law's where the arguments, and the package variables that the reading takes, are together of bulk at most 1048576: NARROWER than '..Said'. Prove '..Said' where nothing that the law and all that it calls make is longer than what came in: it says more and counts as full. Else prove '..UptoSaid'. A law counts once. -/
mutual
def uptoBulk {H : Type} : DataW H → Nat
  | .lit (.string bytes) => bytes.length + 1
  | .lit _ => 1
  | .nil => 1
  | .ptr d => uptoBulk d + 1
  | .slice elems spare => uptoBulkAll elems + uptoBulkAll spare + 1
  | .agg parts => uptoBulkAll parts + 1
  | .iface _ d => uptoBulk d + 1
  | .map entries => uptoBulkEntries entries + 1
  | .held _ => 1
def uptoBulkAll {H : Type} : List (DataW H) → Nat
  | [] => 0
  | d :: r => uptoBulk d + uptoBulkAll r
def uptoBulkEntries {H : Type} : List (Lit × DataW H) → Nat
  | [] => 0
  | x :: r => uptoBulkEntry x + uptoBulkEntries r
def uptoBulkEntry {H : Type} : Lit × DataW H → Nat
  | (.string bytes, d) => bytes.length + uptoBulk d + 1
  | (_, d) => uptoBulk d + 1
 end
def uptoSmall : (H : Type) → List (DataW H) → Bool := fun _ ds => decide (uptoBulkAll ds ≤ 1048576)
def OpenSpec.upto (s : _root_.Go.ChangeSpec) : _root_.Go.OpenSpec := { _root_.Go.OpenSpec.ofChange s with cond := some uptoSmall }

/-- 'beaconlaw6.GridBack', WHERE WHAT IT READS IS OF BULK AT MOST 1048576: true; the input reads as it did. -/
def gridBackUptoRow : OpenClaim := { program := "ytenhgkhonaglaaa", sum := "a211d50c4f89bfe9db225249a83237cc86327387524ad3ed6c54dde184162d10", func := "beacon/beaconlaw6.GridBack", spec := "gridBack", unfollowed := true, recurses := true, apart := false, narrowed := true }
def GridBackUptoSaid : Prop := gridBackUptoRow.holds Try.pinned (OpenSpec.upto gridBackSpec)

/-- 'beaconlaw7.TabsExact', WHERE WHAT IT READS IS OF BULK AT MOST 1048576: true; the input reads as it did. -/
def tabsExactUptoRow : OpenClaim := { program := "ytenhgkhonaglaaa", sum := "a211d50c4f89bfe9db225249a83237cc86327387524ad3ed6c54dde184162d10", func := "beacon/beaconlaw7.TabsExact", spec := "tabsExact", inPlace := ["internal/abi.NoEscape"], apart := false, narrowed := true }
def TabsExactUptoSaid : Prop := tabsExactUptoRow.holds Try.pinned (OpenSpec.upto tabsExactSpec)

/-- 'beaconlaw7.TabsNext', WHERE WHAT IT READS IS OF BULK AT MOST 1048576: true; the input reads as it did. -/
def tabsNextUptoRow : OpenClaim := { program := "ytenhgkhonaglaaa", sum := "a211d50c4f89bfe9db225249a83237cc86327387524ad3ed6c54dde184162d10", func := "beacon/beaconlaw7.TabsNext", spec := "tabsNext", inPlace := ["internal/abi.NoEscape"], apart := false, narrowed := true }
def TabsNextUptoSaid : Prop := tabsNextUptoRow.holds Try.pinned (OpenSpec.upto tabsNextSpec)

end Rows
end Go.Proofs.Ytenhgkhonaglaaa
