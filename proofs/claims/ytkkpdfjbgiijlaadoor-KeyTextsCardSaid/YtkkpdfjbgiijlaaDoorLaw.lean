/- From a law's walk to its row: the answer true, the one argument as it was. -/
import Derived.Test.YtkkpdfjbgiijlaaDoorBase
import Derived.ProofKit
import Derived.OpenShut
import Derived.Deep.DeepHandedRow
import Derived.Lib.LaidTab
import Derived.WideKeyArgs
import Derived.ChangeSame
import Derived.SliceStrings
namespace Go.Proofs.YtkkpdfjbgiijlaaDoor
open Go.ChangeShapes Go.WideShapes Go.RowKit

theorem Tryd.own : ownKnob Tryd.prog.godebug = none := by kernel_rfl
theorem Tryd.laidOut : laidOutB Tryd.prog = true := by kernel_rfl

section
variable {H : Type} {enc : TypeId × Value → H} {P : Program}
/-- Nothing that was there has turned, the law answered true. -/
theorem law_post {f : Func} {s : ChangeSpec} {fresh handsOn : Bool} {W W' : World} {v0 : Value} {d0 : DataW H} {before : List MemPlace} {t tb : TypeId}
    (hl : laidOutB P = true) (hr : P.readableRec t = true) (hrow : t < P.types.size) (hp : f.params = #[t]) (hres : f.resultTypes = #[tb]) (htb : P.underlying tb = some .bool) (hv : s.vars = [])
    (hfn : (s.fn H [d0]).results = [.lit (.bool true)] ∧ (s.fn H [d0]).args = [d0] ∧ (s.fn H [d0]).vars = [])
    (hW : DataW.Whole enc P f.params.toList s.vars false W [v0] [d0] [] before) (h0 : DataW.Trod enc P W 0 (fun _ => true) true t v0 d0 before) (hB : Below W.heap.size W W') :
    s.post enc P f false fresh handsOn false W #[v0] (.bool true) W' := by
  have hlt : ∀ p ∈ before, p.block < W.heap.size := fun p hp => hW.lt p hp
  refine ⟨[d0], [], before, [], before, [], hW, ?_, ?_, ?_, hB.frame _, fun h => by cases h⟩
  · rw [hres, List.append_nil, hfn.1]
    exact trodAll_mk1 (shut_bool htb true)
  · rw [hp, List.append_nil, hfn.2.1]
    exact trodAll_mk1 (WideElems.Trod_stays hl hr hrow h0 (fun p hp => hB.same (hlt p hp)) (fun p hp => decide_eq_true (hlt p hp)))
  · rw [hv, List.append_nil, hfn.2.2]
    rfl
end
end Go.Proofs.YtkkpdfjbgiijlaaDoor
