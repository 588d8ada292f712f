/-
  No cell of these rows narrows 'for every input' (looked for: loops, veiled, ifaces, maps, wideKeys, modest, calm, conditions, laid).
  DERIVED. THE GIVEN ROWS OF THIS SEAT. 3 by the template 'for every input the law returns true; each argument reads behind the call as it read before'; 0 by the template 'total and deterministic' (their statements: YtabplmhmanbmjaaTotals.lean).
  GIVEN WITH THE SEED: the statements are not yours to turn. If you find one false, say at which input.
  Laid BY PROGRAM, IN A SANDBOX (cutbox-rows.mjs): the forced cells as the released guide's own fill.sh prints them over the translation 769d86720c8e9827… (all of the seat's roots in one cut). By AI agents, Wed Nov 11 2026. No macro, syntax, notation, axiom, sorry.
-/
import Derived.Test.YtabplmhmanbmjaaChecked
import GoSem.Claim
import GoSem.ClaimJoined
import GoSem.ClaimMapViews
import Derived.JoinedTies
import Derived.KernelRfl
namespace Go.Proofs.Ytabplmhmanbmjaa
/- THE CELL 'sum', in the pinned program and in every row, IS THE sha256 OF THE DUMP (.gsa) THAT YtabplmhmanbmjaaProg.lean LOADS. Nothing in Lean hashes anything: it is a label: what it is worth is what the hold of that sum in a sandbox is worth. -/
noncomputable def Try.pinned : Pinned := { name := "ytabplmhmanbmjaa", sum := "769d86720c8e9827d89a65e8495221c870cfebe3f2b3f7d950e6d84a6fbffb81", checked := Try.checked }
namespace Rows
def none {H : Type} : Left H := { results := [], args := [] }

/-- 'beaconlaw4.SgrApplies': WHATEVER THE INPUT: true; the input reads as it did. -/
def sgrAppliesSpec : ChangeSpec := { name := "sgrApplies", fn := fun _ => fun
  | [d] => { results := [.lit (.bool true)], args := [d] }
  | _ => none }
def sgrAppliesRow : OpenClaim := { program := "ytabplmhmanbmjaa", sum := "769d86720c8e9827d89a65e8495221c870cfebe3f2b3f7d950e6d84a6fbffb81", func := "beacon/beaconlaw4.SgrApplies", spec := "sgrApplies", apart := false }
def SgrAppliesSaid : Prop := sgrAppliesRow.holds Try.pinned (OpenSpec.ofChange sgrAppliesSpec)

/-- ITS FALSE NEIGHBOUR: 'it returns false'. Refute it at one input. -/
def sgrAppliesWrong : ChangeSpec := { name := "sgrApplies", fn := fun _ => fun
  | [d] => { results := [.lit (.bool false)], args := [d] }
  | _ => none }
def SgrAppliesWrongFalsely : Prop := sgrAppliesRow.holds Try.pinned (OpenSpec.ofChange sgrAppliesWrong)

/-- 'beaconlaw4.SgrEach': WHATEVER THE INPUT: true; the input reads as it did. -/
def sgrEachSpec : ChangeSpec := { name := "sgrEach", fn := fun _ => fun
  | [d] => { results := [.lit (.bool true)], args := [d] }
  | _ => none }
def sgrEachRow : OpenClaim := { program := "ytabplmhmanbmjaa", sum := "769d86720c8e9827d89a65e8495221c870cfebe3f2b3f7d950e6d84a6fbffb81", func := "beacon/beaconlaw4.SgrEach", spec := "sgrEach", apart := false }
def SgrEachSaid : Prop := sgrEachRow.holds Try.pinned (OpenSpec.ofChange sgrEachSpec)

/-- ITS FALSE NEIGHBOUR: 'it returns false'. Refute it at one input. -/
def sgrEachWrong : ChangeSpec := { name := "sgrEach", fn := fun _ => fun
  | [d] => { results := [.lit (.bool false)], args := [d] }
  | _ => none }
def SgrEachWrongFalsely : Prop := sgrEachRow.holds Try.pinned (OpenSpec.ofChange sgrEachWrong)

/-- 'beaconlaw4.SgrBack': WHATEVER THE INPUT: true; the input reads as it did. -/
def sgrBackSpec : ChangeSpec := { name := "sgrBack", fn := fun _ => fun
  | [d] => { results := [.lit (.bool true)], args := [d] }
  | _ => none }
def sgrBackRow : OpenClaim := { program := "ytabplmhmanbmjaa", sum := "769d86720c8e9827d89a65e8495221c870cfebe3f2b3f7d950e6d84a6fbffb81", func := "beacon/beaconlaw4.SgrBack", spec := "sgrBack", apart := false }
def SgrBackSaid : Prop := sgrBackRow.holds Try.pinned (OpenSpec.ofChange sgrBackSpec)

/-- ITS FALSE NEIGHBOUR: 'it returns false'. Refute it at one input. -/
def sgrBackWrong : ChangeSpec := { name := "sgrBack", fn := fun _ => fun
  | [d] => { results := [.lit (.bool false)], args := [d] }
  | _ => none }
def SgrBackWrongFalsely : Prop := sgrBackRow.holds Try.pinned (OpenSpec.ofChange sgrBackWrong)

/- THE SECOND FORM. 'bulk': how many values and letters a reading holds, each counted each time it is reached (what is shared counts as often as it is met; a slice's spare places count too). A statement '..UptoSaid' is the law's where the arguments, and the package variables that the reading takes, are together of bulk at most 1048576: NARROWER than '..Said'. Prove '..Said' where nothing that the law and all that it calls make is longer than what came in: it says more and counts as full. Else prove '..UptoSaid'. A law counts once. -/
mutual
def uptoBulk {H : Type} : DataW H → Nat
  | .lit (.string bytes) => bytes.length + 1
  | .lit _ => 1
  | .nil => 1
  | .ptr d => uptoBulk d + 1
  | .slice elems spare => uptoBulkAll elems + uptoBulkAll spare + 1
  | .agg parts => uptoBulkAll parts + 1
  | .iface _ d => uptoBulk d + 1
  | .map entries => uptoBulkEntries entries + 1
  | .held _ => 1
def uptoBulkAll {H : Type} : List (DataW H) → Nat
  | [] => 0
  | d :: r => uptoBulk d + uptoBulkAll r
def uptoBulkEntries {H : Type} : List (Lit × DataW H) → Nat
  | [] => 0
  | x :: r => uptoBulkEntry x + uptoBulkEntries r
def uptoBulkEntry {H : Type} : Lit × DataW H → Nat
  | (.string bytes, d) => bytes.length + uptoBulk d + 1
  | (_, d) => uptoBulk d + 1
 end
def uptoSmall : (H : Type) → List (DataW H) → Bool := fun _ ds => decide (uptoBulkAll ds ≤ 1048576)
def OpenSpec.upto (s : _root_.Go.ChangeSpec) : _root_.Go.OpenSpec := { _root_.Go.OpenSpec.ofChange s with cond := some uptoSmall }

/-- 'beaconlaw4.SgrApplies', WHERE WHAT IT READS IS OF BULK AT MOST 1048576: true; the input reads as it did. -/
def sgrAppliesUptoRow : OpenClaim := { program := "ytabplmhmanbmjaa", sum := "769d86720c8e9827d89a65e8495221c870cfebe3f2b3f7d950e6d84a6fbffb81", func := "beacon/beaconlaw4.SgrApplies", spec := "sgrApplies", apart := false, narrowed := true }
def SgrAppliesUptoSaid : Prop := sgrAppliesUptoRow.holds Try.pinned (OpenSpec.upto sgrAppliesSpec)

/-- 'beaconlaw4.SgrEach', WHERE WHAT IT READS IS OF BULK AT MOST 1048576: true; the input reads as it did. -/
def sgrEachUptoRow : OpenClaim := { program := "ytabplmhmanbmjaa", sum := "769d86720c8e9827d89a65e8495221c870cfebe3f2b3f7d950e6d84a6fbffb81", func := "beacon/beaconlaw4.SgrEach", spec := "sgrEach", apart := false, narrowed := true }
def SgrEachUptoSaid : Prop := sgrEachUptoRow.holds Try.pinned (OpenSpec.upto sgrEachSpec)

/-- 'beaconlaw4.SgrBack', WHERE WHAT IT READS IS OF BULK AT MOST 1048576: true; the input reads as it did. -/
def sgrBackUptoRow : OpenClaim := { program := "ytabplmhmanbmjaa", sum := "769d86720c8e9827d89a65e8495221c870cfebe3f2b3f7d950e6d84a6fbffb81", func := "beacon/beaconlaw4.SgrBack", spec := "sgrBack", apart := false, narrowed := true }
def SgrBackUptoSaid : Prop := sgrBackUptoRow.holds Try.pinned (OpenSpec.upto sgrBackSpec)

end Rows
end Go.Proofs.Ytabplmhmanbmjaa
