/- Joined texts: GrdNew, GrdBad. -/
import Derived.Test.YtgdfiiikbnpagaaGreatDoorJ8
section
/- The developers' New; the law wakes. -/
namespace Go.Proofs.YtgdfiiikbnpagaaGreatDoor
set_option maxRecDepth 100000
open Go.RowKit
namespace Row

end Row
end Go.Proofs.YtgdfiiikbnpagaaGreatDoor
end
section
/- The developers' Up, Down, Resize and New, where they refuse. -/
namespace Go.Proofs.YtgdfiiikbnpagaaGreatDoor
set_option maxRecDepth 100000
open Go.RowKit
namespace Row

/-- What may be moved. -/
def MvOk (G : Gr) (top bot n : Int) (a : Look) : Prop := GridOk G ∧ attrOk a = true ∧ (0 ≤ top ∧ top ≤ bot) ∧ bot < G.rows ∧ (0 ≤ n ∧ n ≤ 9999)
theorem gzero {w : World} {b : Nat} (h : w.heap[b]? = some (gbox 0 0 (.slice none 0 0))) : w.cell? ⟨b, 0, none⟩ = some (.int .i64 0) ∧ w.cell? ⟨b, 1, none⟩ = some (.int .i64 0) ∧ w.cell? ⟨b, 2, none⟩ = some (.slice none 0 0) ∧ w.frozen? ⟨b, 0, none⟩ = false ∧ w.frozen? ⟨b, 1, none⟩ = false ∧ w.frozen? ⟨b, 2, none⟩ = false :=
  ⟨Blk.cell h 0, Blk.cell h 1, Blk.cell h 2, Blk.free h 0, Blk.free h 1, Blk.free h 2⟩
end Row
end Go.Proofs.YtgdfiiikbnpagaaGreatDoor
end
