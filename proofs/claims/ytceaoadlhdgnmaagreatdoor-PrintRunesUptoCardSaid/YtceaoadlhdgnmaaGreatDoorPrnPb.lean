/- A screen in a box: another one stored whole over it; its column. -/
import Derived.Test.YtceaoadlhdgnmaaGreatDoorMRestS
import Derived.Test.YtceaoadlhdgnmaaGreatDoorM320
import Derived.Test.YtceaoadlhdgnmaaGreatDoorM43
import Derived.Test.YtceaoadlhdgnmaaGreatDoorM118
namespace Go.Proofs.YtceaoadlhdgnmaaGreatDoor
set_option maxRecDepth 100000
open Go.RowKit
namespace Scr
open Go.Proofs.YtceaoadlhdgnmaaGreatDoor.Row Wid

theorem Pb.putW {w0 w w' : World} {B : Nat} {s X : S} {x y z x' y' z' : Value} (h : Pb w0 s x y z w) (ho : Own w B X x' y' z') (hB : w0.heap.size + 2 ≤ B) (hs : Sto w w0.heap.size (sarr X x' y' z') w') : Pb w0 X x' y' z' w' ∧ Only w0.heap.size w w' :=
  have hon : Only w0.heap.size w w' := ⟨Nat.le_of_eq hs.size.symm, fun g o hg e => (hs.other g hg).trans e⟩
  ⟨h.only ⟨hs.box, Own.low (hs.own2 h.pn.box ho) hB, h.pn.lt, by rw [hs.size]; exact h.pn.up⟩ (hs.below _ _ (Nat.le_refl _) (Below.refl _ _)) hon, hon⟩
theorem Pb.colW {w0 w : World} {s : S} {x y z : Value} (h : Pb w0 s x y z w) (n : Int) : Pb w0 (atCol s n) x y z (w.setCell ⟨w0.heap.size, 8, none⟩ (.int .i64 n)) :=
  h.only (s' := atCol s n) ⟨Blk.set h.pn.box 8 _, (h.pn.own.set h.pn.lt 8 _).as _ rfl rfl rfl, h.pn.lt, by rw [size_set]; exact h.pn.up⟩ ((Below.refl w0.heap.size w).setCell (show w0.heap.size ≤ w0.heap.size by omega) _) ((Only.refl w0.heap.size w).set _ _)
end Scr
end Go.Proofs.YtceaoadlhdgnmaaGreatDoor
