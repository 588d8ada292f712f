/- Joined texts: GrdLines. -/
import Derived.Test.YtjcfbeiljdohcaaDoorJM14
import Derived.Test.YtjcfbeiljdohcaaDoorJM19
import Derived.Maps.AppendAt
import Derived.RangeFuncBox
namespace Go.Proofs.YtjcfbeiljdohcaaDoor
set_option maxRecDepth 100000
section
open Go.RowKit
namespace Row
attribute [local go_sem] Oper.semAt_some
def keptOf (cv : Nat → Value) (l : List Cl) (C : Nat) (is : List Nat) : List Ln := is.map fun i => Ln.kept (cv i) (rowAt l C i)
theorem keptOf_length (cv : Nat → Value) (l : List Cl) (C : Nat) (is : List Nat) : (keptOf cv l C is).length = is.length := List.length_map _
def LI (w w0 : World) (b R C m cp : Nat) (ad : Addr) (cv : Nat → Value) (l : List Cl) (pre : List (Lt R)) (W : World) : Prop :=
  (∃ v, Boxed W b 126 v ∧ W.ownsRow w.heap.size 147 1 v (keptOf cv l C (pre.map (·.1))).length (lvs (keptOf cv l C (pre.map (·.1)))) ∧ True) ∧
    (Boxed W (b + 1) 28 (.slice (some ad) m cp) ∧ (Boxed W (b + 1 + 1) 3 (.int .i64 C) ∧ (Below w.heap.size w W ∧ w0.heap.size ≤ W.heap.size)))
end Row
end
end Go.Proofs.YtjcfbeiljdohcaaDoor
