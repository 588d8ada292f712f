/- Joined texts: ScrEq. -/
import Derived.Test.YtceaoadlhdgnmaaGreatDoorK5
import Derived.Test.YtceaoadlhdgnmaaGreatDoorK12
section
/- Two screens that are one are told so. -/
namespace Go.Proofs.YtceaoadlhdgnmaaGreatDoor
set_option maxRecDepth 100000
open Go.RowKit
namespace Scr
open Go.Proofs.YtceaoadlhdgnmaaGreatDoor.Row
@[go_sem] theorem eql_cur (a b : Int) (c : Bool) (d e f g h i : Int) (j : Bool) (w : World) :
    (binOp .eql 33 (.agg #[.int .i64 a, .int .i64 b, .bool c, .int .i64 d, .int .i64 e, .int .i64 f, .int .i64 g, .int .i64 h, .int .i64 i, .bool j]) (.agg #[.int .i64 a, .int .i64 b, .bool c, .int .i64 d, .int .i64 e, .int .i64 f, .int .i64 g, .int .i64 h, .int .i64 i, .bool j])).run Tryz.prog w = .ok (.bool true) w := by
  simp [go_sem]
/-- Not more than a law plays. -/
structure Lens (s : S) : Prop where
  m : s.main.cells.length ≤ 1000000
  o : s.other.cells.length ≤ 1000000
  t : s.tabs.length ≤ 1000000
/-- Two boxes of one screen. -/
structure Two (w0 : World) (s : S) (x y z x' y' z' : Value) (w : World) : Prop where
  bel : Below w0.heap.size w0 w
  b0 : SBox w w0.heap.size s x y z
  b1 : SBox w (w0.heap.size + 1) s x' y' z'
  i0 : In w s x y z
  i1 : In w s x' y' z'
theorem Two.kept {w0 w w' : World} {s : S} {x y z x' y' z' : Value} (h : Two w0 s x y z x' y' z' w) (hb : Below w.heap.size w w') : Two w0 s x y z x' y' z' w' :=
  ⟨h.bel.trans (hb.mono h.bel.size), h.b0.kept hb, h.b1.kept hb, h.i0.kept hb, h.i1.kept hb⟩
theorem Two.start {w : World} {s : S} {x y z x' y' z' : Value} (h : In w s x y z) (h' : In w s x' y' z') : Two w s x y z x' y' z' ((w.alloc (.cells (sarr s x y z) 36)).alloc (.cells (sarr s x' y' z') 36)) := by
  have hb : Below w.heap.size w ((w.alloc (.cells (sarr s x y z) 36)).alloc (.cells (sarr s x' y' z') 36)) := ((Below.refl _ _).alloc (Nat.le_refl _) _).alloc (by simp) _
  exact ⟨hb, heap_alloc2_old _ _ _, heap_alloc2_new _ _ _, h.kept hb, h'.kept hb⟩
theorem call_then {f : FuncId} {args : Array Value} {w : World} {v : Value} {Q : Ending → World → Prop} {T : World → Prop} (h : Calls Tryz.prog f args w fun e w' => e = .returned v ∧ Below w.heap.size w w') (hT : ∀ w', Below w.heap.size w w' → T w')
    (hQ : ∀ w', Hid (T w') → Q (.returned v) w') : Calls Tryz.prog f args w Q :=
  h.mono (by rintro e w' ⟨rfl, hb⟩; exact hQ w' (Lib.hid (hT w' hb)))
set_option maxHeartbeats 3200000 in
theorem eqScreen_same (s : S) (x y z x' y' z' : Value) (w : World) (h : In w s x y z) (h' : In w s x' y' z') (hl : Lens s) :
    Calls Tryz.prog 67 #[sv s x y z, sv s x' y' z'] w fun e w' => e = .returned (.bool true) ∧ Below w.heap.size w w' := by
  have H0 := Lib.hid (Two.start h h')
  have HL := Lib.hid hl
  clear h h' hl
  go_enter Tryz.func67, Tryz.ntmps67
  go_wp2_with fail
  refine call_then (eqGrid_same s.main.rows s.main.cols s.main.cells x x' _ H0.out.i0.m.cs H0.out.i1.m.cs (by have := HL.out.m; omega)) (T := Two w s x y z x' y' z') (fun _ hb => H0.out.kept hb) ?_; intro w1 H1
  clear H0
  have c0 : ∀ j, w1.cell? ⟨w.heap.size, j, none⟩ = (sarr s x y z)[j]? := H1.out.b0.cell
  have c1 : ∀ j, w1.cell? ⟨w.heap.size + 1, j, none⟩ = (sarr s x' y' z')[j]? := H1.out.b1.cell
  go_wp2_with fail
  refine call_then (eqGrid_same s.other.rows s.other.cols s.other.cells y y' _ H1.out.i0.o.cs H1.out.i1.o.cs (by have := HL.out.o; omega)) (T := Two w s x y z x' y' z') (fun _ hb => H1.out.kept hb) ?_; intro w2 H2
  clear H1 c0 c1
  have c0 : ∀ j, w2.cell? ⟨w.heap.size, j, none⟩ = (sarr s x y z)[j]? := H2.out.b0.cell
  have c1 : ∀ j, w2.cell? ⟨w.heap.size + 1, j, none⟩ = (sarr s x' y' z')[j]? := H2.out.b1.cell
  go_wp2_with fail
  refine call_then (Tab.eqBools_same s.tabs s.tabs _ H2.out.i0.t H2.out.i1.t rfl (by have := HL.out.t; omega)) (T := Two w s x y z x' y' z') (fun _ hb => H2.out.kept hb) ?_; intro w3 H3
  clear H2 c0 c1
  have c0 : ∀ j, w3.cell? ⟨w.heap.size, j, none⟩ = (sarr s x y z)[j]? := H3.out.b0.cell
  have c1 : ∀ j, w3.cell? ⟨w.heap.size + 1, j, none⟩ = (sarr s x' y' z')[j]? := H3.out.b1.cell
  go_wp2_with fail
  go_ret
  exact ⟨rfl, H3.out.bel⟩
end Scr
end Go.Proofs.YtceaoadlhdgnmaaGreatDoor
end
