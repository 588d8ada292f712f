/- A block of so many numbers; a round that asks for one answer, where the answer's box came first. -/
import Derived.Test.YtceaoadlhdgnmaaGreatDoorMRestS
import Derived.Test.YtceaoadlhdgnmaaGreatDoorM118

namespace Go.Proofs.YtceaoadlhdgnmaaGreatDoor
set_option maxRecDepth 100000
open Go.RowKit
namespace Scr
open Go.Proofs.YtceaoadlhdgnmaaGreatDoor.Row

def Many (k : Nat) (w : World) (b : Nat) : Prop := ∀ j, j < k → ∃ v : Int, w.cell? ⟨b, j, none⟩ = some (.int .i64 v)
theorem Many.kept {k : Nat} {w w' : World} {b : Nat} (h : Many k w b) (hb : Below w.heap.size w w') : Many k w' b := fun j hj => by
  obtain ⟨v, e⟩ := h j hj
  exact ⟨v, cell_kept hb e⟩
theorem Many.made (w : World) (l : List Int) (t : TypeId) : Many l.length (w.alloc (.cells (l.map (Value.int .i64)).toArray t)) w.heap.size := fun j hj => by
  refine ⟨l[j], ?_⟩
  rw [Blk.cell (heap_alloc_new w (.cells (l.map (Value.int .i64)).toArray t)) j]
  simp [hj]
end Scr
end Go.Proofs.YtceaoadlhdgnmaaGreatDoor
