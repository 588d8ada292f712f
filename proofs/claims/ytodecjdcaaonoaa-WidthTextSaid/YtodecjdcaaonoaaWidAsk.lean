/- The argument of the laws on widths: texts and numbers. -/
import Derived.Test.YtodecjdcaaonoaaFine
namespace Go.Proofs.Ytodecjdcaaonoaa
open Go.ChangeShapes Go.WideShapes Go.RowKit
namespace Wid
theorem Try.cellsStr : Try.prog.cellsOf 9 = 1 := by kernel_rfl
theorem Try.cellsInt : Try.prog.cellsOf 3 = 1 := by kernel_rfl
theorem Try.bytesStr : Try.prog.bytesOf 9 = 16 := by kernel_rfl
theorem Try.bytesInt : Try.prog.bytesOf 3 = 8 := by kernel_rfl
theorem Try.cellsAsk1 : Try.prog.cellsOf 24 = 1 := by kernel_rfl
theorem Try.cellsAsk2 : Try.prog.cellsOf 27 = 2 := by kernel_rfl
theorem Try.cellsNums : Try.prog.cellsOf 25 = 1 := by kernel_rfl
theorem Try.cellsTexts2 : Try.prog.cellsOf 22 = 1 := by kernel_rfl
theorem open_ask {W : World} {cs : List Value} (h : Fine Try.prog W 27 cs) : ∃ x y, cs = [x, y] ∧ Fine Try.prog W 22 [x] ∧ Fine Try.prog W 25 [y] := by
  have hl := h.len Try.underlying27
  rw [Try.cellsAsk2] at hl
  match cs, hl with
  | [x, y], _ =>
    have h0 : Fine Try.prog W 24 [x] := h.part Try.underlying27 0 rfl rfl rfl Try.cellsAsk1
    have h1 : Fine Try.prog W 25 [y] := h.part Try.underlying27 1 rfl rfl rfl Try.cellsNums
    exact ⟨x, y, rfl, h0.part Try.underlying24 0 rfl rfl rfl Try.cellsTexts2, h1⟩
end Wid
end Go.Proofs.Ytodecjdcaaonoaa
