/- Joined texts: CurRef0. -/
import Derived.Test.YtceaoadlhdgnmaaGreatDoorK24
import Derived.Test.YtceaoadlhdgnmaaGreatDoorK203
import Derived.Deep.RegionLaw
import Derived.BigQuiet
section
/- Where a cursor goes: what the page's Move stands on. -/
namespace Go.Proofs.YtceaoadlhdgnmaaGreatDoor
set_option maxRecDepth 100000
open Go.RowKit
namespace Scr
open Go.Proofs.YtceaoadlhdgnmaaGreatDoor.Row

def atC (s : S) (c : Int) : S := atPlace s s.cur.row c
theorem Pb.col {w0 w : World} {s : S} {x y z : Value} (h : Pb w0 s x y z w) (n : Int) : Pb w0 (atC s n) x y z (w.setCell ⟨w0.heap.size, 8, none⟩ (.int .i64 n)) :=
  h.only (h.pn.atCol' n) ((Below.refl w0.heap.size w).setCell (show w0.heap.size ≤ w0.heap.size by omega) _) ((Only.refl w0.heap.size w).set _ _)
theorem goal_row {s : S} {k n r : Int} (h : goal s k n = (true, r)) : goTo s k n = atRow s r := by unfold goTo; rw [h]; rfl
theorem goal_col {s : S} {k n c : Int} (h : goal s k n = (false, c)) : goTo s k n = atC s c := by unfold goTo; rw [h]; rfl
theorem move_both {s : S} {key k n m c0 r c : Int} (hk : stL key n m = [(k, n), (71, c0)]) (h : goal s k (max n 1) = (true, r)) (hc : min (max c0 1 - 1) (s.main.cols - 1) = c) : moveS s key n m = atC (atRow (noWrap s) r) c := by
  unfold moveS; rw [hk]
  show noWrap (goTo (goTo s k (max n 1)) 71 (max c0 1)) = _
  rw [goal_row h, goal_col (show goal (atRow s r) 71 (max c0 1) = (false, c) by rw [← hc]; rfl)]; rfl
/-- What is read of its box. -/
structure Rd (w : World) (b : Nat) (s : S) (z : Value) : Prop where
  c0 : w.cell? ⟨b, 0, none⟩ = some (.int .i64 s.main.rows)
  c1 : w.cell? ⟨b, 1, none⟩ = some (.int .i64 s.main.cols)
  c7 : w.cell? ⟨b, 7, none⟩ = some (.int .i64 s.cur.row)
  c8 : w.cell? ⟨b, 8, none⟩ = some (.int .i64 s.cur.col)
  c16 : w.cell? ⟨b, 16, none⟩ = some (.bool s.cur.origin)
  c37 : w.cell? ⟨b, 37, none⟩ = some (.int .i64 s.top)
  c38 : w.cell? ⟨b, 38, none⟩ = some (.int .i64 s.bottom)
  c39 : w.cell? ⟨b, 39, none⟩ = some z
theorem SBox.rd {w : World} {b : Nat} {s : S} {x y z : Value} (h : SBox w b s x y z) : Rd w b s z := ⟨h.cell 0, h.cell 1, h.cell 7, h.cell 8, h.cell 16, h.cell 37, h.cell 38, h.cell 39⟩
end Scr
end Go.Proofs.YtceaoadlhdgnmaaGreatDoor
end
