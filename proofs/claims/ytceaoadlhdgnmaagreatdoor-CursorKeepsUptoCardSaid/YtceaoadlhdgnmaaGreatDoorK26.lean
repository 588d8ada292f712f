/- Joined texts: ScrSt. -/
import Derived.Test.YtceaoadlhdgnmaaGreatDoorK17
import Derived.StillTailTactics
import Derived.Deep.RegionHeld3
section
/- Whole loads of screens in regions that draw: still, held. -/
namespace Go.Proofs.YtceaoadlhdgnmaaGreatDoor
set_option maxRecDepth 100000
open Go.RowKit
namespace Scr
open Go.Proofs.YtceaoadlhdgnmaaGreatDoor.Row

theorem run_load_op {w : World} {o : Oper} {a : Act} {x : Operand} {p : Addr} {s : S} {x0 y0 z0 : Value} (ho : o.op = .load 36 x) (hx : a.eval x = .pointer (some p)) (h : At w p (sarr s x0 y0 z0).toList) :
    (execOp a.eval o).run Tryz.prog w = .ok (.value (.agg (sarr s x0 y0 z0))) w := by
  unfold execOp
  simp only [ho, hx, Instr.loadAt, Instr.sureAddr, Sem.run_bind, Sem.run_pure, Result.andThen_ok, run_loadAtS h]
theorem SBox.at {w : World} {b : Nat} {s : S} {x y z : Value} (h : SBox w b s x y z) : At w ⟨b, 0, none⟩ (sarr s x y z).toList := by
  intro j u hu
  have := h.cell j
  rw [Array.getElem?_toList] at hu
  rw [hu] at this
  have e : (⟨b, 0, none⟩ : Addr).add j = ⟨b, j, none⟩ := by simp [Addr.add]; exact fun q => q.symm
  rw [e]
  exact this
/-- Taken first, held. -/
theorem yields_loadS {ops : Array Oper} {T : World → Prop} {o : Oper} {a : Act} {x : Operand} {p : Addr} {s : S} {x0 y0 z0 : Value} (hgd : Region.wanted o (yielded ops a.tmps) = true) (ho : o.op = .load 36 x) (hx : a.eval x = .pointer (some p))
    (h : ∀ w, T w → At w p (sarr s x0 y0 z0).toList) : YieldsIf Tryz.prog ops T o (.agg (sarr s x0 y0 z0)) a := Or.inl ⟨hgd, fun w hT => run_load_op ho hx (h w hT)⟩
/-- In a still head. -/
theorem still_loadS {w : World} {ops : Array Oper} {rest : List Oper} {o : Oper} {a : Act} {Q : Act → Prop} {x : Operand} {p : Addr} {s : S} {x0 y0 z0 : Value} (hgd : Region.wanted o (yielded ops a.tmps) = true) (ho : o.op = .load 36 x) (hx : a.eval x = .pointer (some p))
    (h : At w p (sarr s x0 y0 z0).toList) (k : wpStill Tryz.prog ops w Q rest (a.put o.dst (.agg (sarr s x0 y0 z0)))) : wpStill Tryz.prog ops w Q (o :: rest) a := by
  refine wpStill_step fun K hK => ?_
  rw [if_pos hgd]
  unfold Oper.still
  rw [run_load_op ho hx h, Oper.stillUpon_value]
  exact hK _ k
end Scr
end Go.Proofs.YtceaoadlhdgnmaaGreatDoor
end
