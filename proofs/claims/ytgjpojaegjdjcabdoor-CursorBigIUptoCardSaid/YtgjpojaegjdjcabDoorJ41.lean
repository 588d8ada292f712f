/- Joined texts: ScrAsk8. -/
import Derived.Test.YtgjpojaegjdjcabDoorJ1
import Derived.Test.YtgjpojaegjdjcabDoorJ2
import Derived.Test.YtgjpojaegjdjcabDoorJ3
import Derived.Test.YtgjpojaegjdjcabDoorJ4
import Derived.Test.YtgjpojaegjdjcabDoorJ5
import Derived.Test.YtgjpojaegjdjcabDoorJ6
import Derived.Test.YtgjpojaegjdjcabDoorJ7
import Derived.Test.YtgjpojaegjdjcabDoorJ8
import Derived.Test.YtgjpojaegjdjcabDoorJ11
import Derived.Test.YtgjpojaegjdjcabDoorJ12
import Derived.Test.YtgjpojaegjdjcabDoorJ13
import Derived.Test.YtgjpojaegjdjcabDoorJ14
import Derived.Test.YtgjpojaegjdjcabDoorJ17
section
/- Stage 8's argument: screens and four numbers. -/
namespace Go.Proofs.YtgjpojaegjdjcabDoor
set_option maxRecDepth 100000
open Go.ChangeShapes Go.WideShapes Go.RowKit
namespace Scr
open Go.Proofs.YtgjpojaegjdjcabDoor.Row
open RowF

theorem cellsAsk8 : Tryd.prog.cellsOf 24 = 5 := by kernel_rfl
theorem open_ask8 {bnd : Nat} {W : World} {cs : List Value} (h : Fine bnd Tryd.prog W 24 cs) : ∃ v n m k r, cs = [v, .int .i64 n, .int .i64 m, .int .i64 k, .int .i64 r] ∧ (I64 n ∧ I64 m) ∧ ∃ l : List Sc, Scrs bnd W v l ∧ l.length ≤ 140737488355328 := by
  have hl := h.len Tryd.underlying24
  rw [cellsAsk8] at hl
  match cs, hl with
  | [v, n, m, k, r], _ =>
    have h0 : Fine bnd Tryd.prog W 22 [v] := h.part Tryd.underlying24 0 rfl rfl rfl cellsScreens
    obtain ⟨n', rfl, b1⟩ := one_int (h.part Tryd.underlying24 1 rfl rfl rfl Tryd.cellsInt : Fine bnd Tryd.prog W 3 [n])
    obtain ⟨m', rfl, b2⟩ := one_int (h.part Tryd.underlying24 2 rfl rfl rfl Tryd.cellsInt : Fine bnd Tryd.prog W 3 [m])
    obtain ⟨k', rfl, _⟩ := one_int (h.part Tryd.underlying24 3 rfl rfl rfl Tryd.cellsInt : Fine bnd Tryd.prog W 3 [k])
    obtain ⟨r', rfl, _⟩ := one_int (h.part Tryd.underlying24 4 rfl rfl rfl Tryd.cellsInt : Fine bnd Tryd.prog W 3 [r])
    exact ⟨v, n', m', k', r', rfl, ⟨b1, b2⟩, open_screens h0⟩
end Scr
end Go.Proofs.YtgjpojaegjdjcabDoor
end
