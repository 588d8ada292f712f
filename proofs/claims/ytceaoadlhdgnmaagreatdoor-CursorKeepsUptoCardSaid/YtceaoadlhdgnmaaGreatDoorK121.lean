/- Joined texts: ScrRun. -/
import Derived.Test.YtceaoadlhdgnmaaGreatDoorK17
section
/- A law on screens under way: what was there stands, its argument lies in its box; screens in boxes of its own. -/
namespace Go.Proofs.YtceaoadlhdgnmaaGreatDoor
set_option maxRecDepth 100000
open Go.RowKit
namespace Scr
open Go.Proofs.YtceaoadlhdgnmaaGreatDoor.Row

abbrev abox (v : Value) (n m k r : Int) : Obj := .cells #[v, .int .i64 n, .int .i64 m, .int .i64 k, .int .i64 r] 24
/-- The law under way: what was there stands, its argument lies in its box. -/
structure Run (w w' : World) (v : Value) (n m k r : Int) : Prop where
  bel : Below w.heap.size w w'
  box : w'.heap[w.heap.size]? = some (abox v n m k r)
theorem Run.kept {w w1 w2 : World} {v : Value} {n m k r : Int} (h : Run w w1 v n m k r) (hb : Below w1.heap.size w1 w2) : Run w w2 v n m k r := ⟨h.bel.trans (hb.mono h.bel.size), Blk.kept h.box hb⟩
theorem Run.start (w : World) (v : Value) (n m k r : Int) : Run w (w.alloc (abox v n m k r)) v n m k r := ⟨bel_alloc w _, heap_alloc_new _ _⟩
/-- A screen in a box of the law's own, in new memory or as it came. -/
structure Bx (w : World) (b : Nat) (e : Sc) : Prop where
  box : SBox w b e.s e.x e.y e.z
  i : e.in_ w
theorem Bx.kept {w w' : World} {b : Nat} {e : Sc} (h : Bx w b e) (hb : Below w.heap.size w w') : Bx w' b e := ⟨h.box.kept hb, h.i.kept hb⟩
/-- One stored into a box just made. -/
theorem bx_sto {w w' : World} {e : Sc} (h : e.in_ w) (h1 : Sto (w.alloc (.cells zarr 36)) w.heap.size (sarr e.s e.x e.y e.z) w') : Bx w' w.heap.size e ∧ Below w.heap.size w w' := by
  have hb : Below w.heap.size w w' := h1.below _ _ (Nat.le_refl _) (bel_alloc w _)
  exact ⟨⟨h1.box, h.kept hb⟩, hb⟩
theorem Reach.holds {bnd : Nat} {s : S} (h : Reach bnd s) (hb : bnd ≤ 1152921504606846976) : Holds s := ⟨fun i hi => Nat.le_trans (h.m.2 i hi) hb, fun i hi => Nat.le_trans (h.o.2 i hi) hb, Nat.le_trans h.t hb⟩
end Scr
end Go.Proofs.YtceaoadlhdgnmaaGreatDoor
end
