/- Joined texts: ScrSame. -/
import Derived.Test.YtmilpdhnblmflaaGreatDoorJ1
import Derived.Test.YtmilpdhnblmflaaGreatDoorJ2
import Derived.Test.YtmilpdhnblmflaaGreatDoorJ3
import Derived.Test.YtmilpdhnblmflaaGreatDoorJ4
import Derived.Test.YtmilpdhnblmflaaGreatDoorJ5
import Derived.Test.YtmilpdhnblmflaaGreatDoorJ6
import Derived.Test.YtmilpdhnblmflaaGreatDoorJ7
import Derived.Test.YtmilpdhnblmflaaGreatDoorJ8
import Derived.Test.YtmilpdhnblmflaaGreatDoorJ9
import Derived.Test.YtmilpdhnblmflaaGreatDoorJ11
import Derived.Test.YtmilpdhnblmflaaGreatDoorJ12
import Derived.Test.YtmilpdhnblmflaaGreatDoorJ13
import Derived.Test.YtmilpdhnblmflaaGreatDoorJ14
import Derived.Test.YtmilpdhnblmflaaGreatDoorJ15
import Derived.Test.YtmilpdhnblmflaaGreatDoorJ17
import Derived.Test.YtmilpdhnblmflaaGreatDoorJ18
import Derived.Test.YtmilpdhnblmflaaGreatDoorJ19
section
/- Views held against each other. -/
namespace Go.Proofs.YtmilpdhnblmflaaGreatDoor
set_option maxRecDepth 100000
open Go.RowKit
namespace Scr
open Go.Proofs.YtmilpdhnblmflaaGreatDoor.Row

set_option maxHeartbeats 1600000 in
theorem eqView8 (G : Gr) (x y : Value) (row col modes : Int) (t : List UInt8) (w : World) (hx : Rm w x G.cells) (hy : Rm w y G.cells) (hn : G.cells.length ≤ 100000000) :
    Calls Tryz.prog 21 #[viewV G x row col modes t, viewV G y row col modes t] w fun e w' => e = .returned (.bool true) ∧ Below w.heap.size w w' := by
  have H0 : Hid (Below w.heap.size w ((w.alloc (vbox G x row col modes t)).alloc (vbox G y row col modes t)) ∧ ((w.alloc (vbox G x row col modes t)).alloc (vbox G y row col modes t)).heap[w.heap.size]? = some (vbox G x row col modes t) ∧ ((w.alloc (vbox G x row col modes t)).alloc (vbox G y row col modes t)).heap[w.heap.size + 1]? = some (vbox G y row col modes t)) :=
    Lib.hid ⟨(bel_alloc w _).alloc (by simp) _, heap_alloc2_old _ _ _, heap_alloc2_new _ _ _⟩
  have HE := Lib.hid (eqGrid_same G.rows G.cols G.cells x y _ (hx.kept H0.out.1).cs (hy.kept H0.out.1).cs hn)
  clear hx hy hn
  go_enter Tryz.func21, Tryz.ntmps21
  go_wp2_with fail
  refine HE.out.mono ?_; rintro e w1 ⟨rfl, hb⟩
  have HB1 := Lib.hid (H0.out.1.trans (hb.mono H0.out.1.size))
  have HX := Lib.hid (Blk.kept H0.out.2.1 hb)
  have HY := Lib.hid (Blk.kept H0.out.2.2 hb)
  have x3 : w1.cell? ⟨w.heap.size, 3, none⟩ = some (.int .i64 row) := Blk.cell HX.out 3
  have x4 : w1.cell? ⟨w.heap.size, 4, none⟩ = some (.int .i64 col) := Blk.cell HX.out 4
  have x5 : w1.cell? ⟨w.heap.size, 5, none⟩ = some (.int .i64 modes) := Blk.cell HX.out 5
  have x6 : w1.cell? ⟨w.heap.size, 6, none⟩ = some (.string ⟨t.toArray⟩) := Blk.cell HX.out 6
  have y3 : w1.cell? ⟨w.heap.size + 1, 3, none⟩ = some (.int .i64 row) := Blk.cell HY.out 3
  have y4 : w1.cell? ⟨w.heap.size + 1, 4, none⟩ = some (.int .i64 col) := Blk.cell HY.out 4
  have y5 : w1.cell? ⟨w.heap.size + 1, 5, none⟩ = some (.int .i64 modes) := Blk.cell HY.out 5
  have y6 : w1.cell? ⟨w.heap.size + 1, 6, none⟩ = some (.string ⟨t.toArray⟩) := Blk.cell HY.out 6
  clear hb
  go_wp2_with fail
  go_ret
  exact ⟨rfl, HB1.out⟩
end Scr
end Go.Proofs.YtmilpdhnblmflaaGreatDoor
end
