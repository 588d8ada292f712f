/- Joined texts: ScrAsk8. -/
import Derived.Test.YtceaoadlhdgnmaaGreatDoorM17
namespace Go.Proofs.YtceaoadlhdgnmaaGreatDoor
set_option maxRecDepth 100000
section
open Go.ChangeShapes Go.WideShapes Go.RowKit
namespace Scr
open Go.Proofs.YtceaoadlhdgnmaaGreatDoor.Row
open RowF
theorem cellsAsk8 : Tryz.prog.cellsOf 24 = 5 := by kernel_rfl
theorem open_ask8 {bnd : Nat} {W : World} {cs : List Value} (h : Fine bnd Tryz.prog W 24 cs) : ∃ v n m k r, cs = [v, .int .i64 n, .int .i64 m, .int .i64 k, .int .i64 r] ∧ (I64 n ∧ I64 m) ∧ ∃ l : List Sc, Scrs bnd W v l ∧ l.length ≤ 140737488355328 := by
  have hl := h.len Tryz.underlying24
  rw [cellsAsk8] at hl
  match cs, hl with
  | [v, n, m, k, r], _ =>
    have h0 : Fine bnd Tryz.prog W 22 [v] := h.part Tryz.underlying24 0 rfl rfl rfl cellsScreens
    obtain ⟨n', rfl, b1⟩ := one_int (h.part Tryz.underlying24 1 rfl rfl rfl Tryz.cellsInt : Fine bnd Tryz.prog W 3 [n])
    obtain ⟨m', rfl, b2⟩ := one_int (h.part Tryz.underlying24 2 rfl rfl rfl Tryz.cellsInt : Fine bnd Tryz.prog W 3 [m])
    obtain ⟨k', rfl, _⟩ := one_int (h.part Tryz.underlying24 3 rfl rfl rfl Tryz.cellsInt : Fine bnd Tryz.prog W 3 [k])
    obtain ⟨r', rfl, _⟩ := one_int (h.part Tryz.underlying24 4 rfl rfl rfl Tryz.cellsInt : Fine bnd Tryz.prog W 3 [r])
    exact ⟨v, n', m', k', r', rfl, ⟨b1, b2⟩, open_screens h0⟩
end Scr
end
end Go.Proofs.YtceaoadlhdgnmaaGreatDoor
