/- Joined texts: ScrSame2. -/
import Derived.Test.YtceaoadlhdgnmaaGreatDoorM17
import Derived.Test.YtceaoadlhdgnmaaGreatDoorM20
import Derived.Test.YtceaoadlhdgnmaaGreatDoorM24
namespace Go.Proofs.YtceaoadlhdgnmaaGreatDoor
set_option maxRecDepth 100000
section
open Go.RowKit
namespace Scr
open Go.Proofs.YtceaoadlhdgnmaaGreatDoor.Row
structure Sm (base : Nat) (w0 : World) (X : S) (x y z x' y' z' : Value) (s : S) (xi yi zi xs ys zs : Value) (w : World) : Prop where
  bel : Below base w0 w
  b0 : SBox w w0.heap.size X x y z
  b1 : SBox w (w0.heap.size + 1) X x' y' z'
  b2 : SBox w (w0.heap.size + 2) s xi yi zi
  b3 : SBox w (w0.heap.size + 3) s xs ys zs
  own : Own w base X x y z
  want : In w X x' y' z'
  bx : Boxes w0 w
theorem boxes_bel {w w' : World} (h : Below w.heap.size w w') : Boxes w w' := fun _ _ e => Blk.kept e h
theorem Sm.kept {base : Nat} {w0 w w' : World} {X : S} {x y z x' y' z' : Value} {s : S} {xi yi zi xs ys zs : Value} (h : Sm base w0 X x y z x' y' z' s xi yi zi xs ys zs w) (hs : base ≤ w.heap.size) (hb : Below w.heap.size w w') : Sm base w0 X x y z x' y' z' s xi yi zi xs ys zs w' :=
  ⟨h.bel.trans (hb.mono hs), h.b0.kept hb, h.b1.kept hb, h.b2.kept hb, h.b3.kept hb, h.own.kept hb, h.want.kept hb, h.bx.trans (boxes_bel hb)⟩
structure Sm2 (base : Nat) (w0 : World) (s : S) (xi yi zi xs ys zs : Value) (w : World) : Prop where
  bel : Below base w0 w
  b2 : SBox w (w0.heap.size + 2) s xi yi zi
  b3 : SBox w (w0.heap.size + 3) s xs ys zs
  bx : Boxes w0 w
theorem four_old (w : World) (a b c d : Obj) : ((((w.alloc a).alloc b).alloc c).alloc d).heap[w.heap.size]? = some a := old_alloc (old_alloc (old_alloc (new_alloc _ _ _ rfl) _) _) _
theorem four_1 (w : World) (a b c d : Obj) : ((((w.alloc a).alloc b).alloc c).alloc d).heap[w.heap.size + 1]? = some b := old_alloc (old_alloc (new_alloc _ _ _ (by simp)) _) _
theorem four_2 (w : World) (a b c d : Obj) : ((((w.alloc a).alloc b).alloc c).alloc d).heap[w.heap.size + 2]? = some c := old_alloc (new_alloc _ _ _ (by simp)) _
theorem four_3 (w : World) (a b c d : Obj) : ((((w.alloc a).alloc b).alloc c).alloc d).heap[w.heap.size + 3]? = some d := new_alloc _ _ _ (by simp)
theorem four_below (w : World) (a b c d : Obj) : Below w.heap.size w ((((w.alloc a).alloc b).alloc c).alloc d) := (((bel_alloc w _).alloc (by simp) _).alloc (by simp; omega) _).alloc (by simp; omega) _
theorem Sm.start {base : Nat} {w : World} {X : S} {x y z x' y' z' : Value} {s : S} {xi yi zi xs ys zs : Value} (hb : base ≤ w.heap.size) (hx : Own w base X x y z) (hw : In w X x' y' z') :
    Sm base w X x y z x' y' z' s xi yi zi xs ys zs ((((w.alloc (.cells (sarr X x y z) 36)).alloc (.cells (sarr X x' y' z') 36)).alloc (.cells (sarr s xi yi zi) 36)).alloc (.cells (sarr s xs ys zs) 36)) :=
  ⟨(four_below _ _ _ _ _).mono hb, four_old _ _ _ _ _, four_1 _ _ _ _ _, four_2 _ _ _ _ _, four_3 _ _ _ _ _, hx.kept (four_below _ _ _ _ _), hw.kept (four_below _ _ _ _ _), boxes_bel (four_below _ _ _ _ _)⟩
theorem own_nil (w : World) (base : Nat) : Own w base noS nilS nilS nilS := ⟨OwnCs.nil _ _, OwnCs.nil _ _, Tab.OwnB.nil _ _⟩
theorem lens_no : Lens noS := ⟨Nat.zero_le _, Nat.zero_le _, Nat.zero_le _⟩
end Scr
end
end Go.Proofs.YtceaoadlhdgnmaaGreatDoor
