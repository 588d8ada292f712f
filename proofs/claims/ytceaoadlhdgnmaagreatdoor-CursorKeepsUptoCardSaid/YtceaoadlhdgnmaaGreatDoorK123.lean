/- Joined texts: ScrPn. -/
import Derived.Test.YtceaoadlhdgnmaaGreatDoorK20
import Derived.Test.YtceaoadlhdgnmaaGreatDoorK43
section
/- A screen that lies in a box, its memory behind it; its copy under way; the call's two boxes. -/
namespace Go.Proofs.YtceaoadlhdgnmaaGreatDoor
set_option maxRecDepth 100000
open Go.RowKit
namespace Scr
open Go.Proofs.YtceaoadlhdgnmaaGreatDoor.Row

/-- A screen in a box, its memory behind it. -/
structure Pn (w : World) (b base : Nat) (s : S) (x y z : Value) : Prop where
  box : SBox w b s x y z
  own : Own w base s x y z
  lt : b < base
  up : base ≤ w.heap.size
theorem Pn.kept {w w' : World} {b base : Nat} {s : S} {x y z : Value} (h : Pn w b base s x y z) (hb : Below w.heap.size w w') : Pn w' b base s x y z := ⟨h.box.kept hb, h.own.kept hb, h.lt, Nat.le_trans h.up hb.size⟩
theorem Only.trans {b : Nat} {w w' w2 : World} (h : Only b w w') (h2 : Only b w' w2) : Only b w w2 := ⟨Nat.le_trans h.1 h2.1, fun g o hg e => h2.2 g o hg (h.2 g o hg e)⟩
theorem Only.bel {b : Nat} {w w' w2 : World} (h : Only b w w') (h2 : Below w'.heap.size w' w2) : Only b w w2 := ⟨Nat.le_trans h.1 h2.size, fun g o hg e => Blk.kept (h.2 g o hg e) h2⟩
theorem Own.set {w : World} {base g : Nat} {s : S} {x y z : Value} (h : Own w base s x y z) (hg : g < base) (j : Nat) (u : Value) : Own (w.setCell ⟨g, j, none⟩ u) base s x y z := ⟨h.m.set hg j u, h.o.set hg j u, ownB_set h.t hg j u⟩
theorem Own.as {w : World} {base : Nat} {s : S} {x y z : Value} (h : Own w base s x y z) (s' : S) (hm : s'.main.cells = s.main.cells) (ho : s'.other.cells = s.other.cells) (ht : s'.tabs = s.tabs) : Own w base s' x y z :=
  ⟨by rw [hm]; exact h.m, by rw [ho]; exact h.o, by rw [ht]; exact h.t⟩
theorem size_set (w : World) (a : Addr) (u : Value) : (w.setCell a u).heap.size = w.heap.size := by simp [World.setCell]
theorem Pn.wrap {w : World} {b base : Nat} {s : S} {x y z : Value} (h : Pn w b base s x y z) : Pn (w.setCell ⟨b, 9, none⟩ (.bool false)) b base (noWrap s) x y z :=
  ⟨Blk.set h.box 9 _, (h.own.set h.lt 9 _).as _ rfl rfl rfl, h.lt, by rw [size_set]; exact h.up⟩
theorem Pn.row {w : World} {b base : Nat} {s : S} {x y z : Value} (h : Pn w b base s x y z) (n : Int) : Pn (w.setCell ⟨b, 7, none⟩ (.int .i64 n)) b base (atRow s n) x y z :=
  ⟨Blk.set h.box 7 _, (h.own.set h.lt 7 _).as _ rfl rfl rfl, h.lt, by rw [size_set]; exact h.up⟩
/-- A screen in the call's first box, in memory of its own; the answer's box behind it. -/
structure Pb (w0 : World) (s : S) (x y z : Value) (w : World) : Prop where
  pn : Pn w w0.heap.size (w0.heap.size + 2) s x y z
  b1 : w.heap[w0.heap.size + 1]? = some (.cells zarr 36 (0, 0))
  bel : Below w0.heap.size w0 w
theorem Pb.kept {w0 w w' : World} {s : S} {x y z : Value} (h : Pb w0 s x y z w) (hb : Below w.heap.size w w') : Pb w0 s x y z w' := ⟨h.pn.kept hb, Blk.kept h.b1 hb, h.bel.trans (hb.mono h.bel.size)⟩
theorem Pb.only {w0 w w' : World} {s s' : S} {x y z x' y' z' : Value} (h : Pb w0 s x y z w) (hp : Pn w' w0.heap.size (w0.heap.size + 2) s' x' y' z') (hb : Below w0.heap.size w w') (ho : Only w0.heap.size w w') : Pb w0 s' x' y' z' w' :=
  ⟨hp, ho.2 _ _ (by omega) h.b1, h.bel.trans hb⟩
theorem Pb.wrap {w0 w : World} {s : S} {x y z : Value} (h : Pb w0 s x y z w) : Pb w0 (noWrap s) x y z (w.setCell ⟨w0.heap.size, 9, none⟩ (.bool false)) :=
  h.only h.pn.wrap ((Below.refl w0.heap.size w).setCell (show w0.heap.size ≤ w0.heap.size by omega) _) ((Only.refl w0.heap.size w).set _ _)
theorem Pb.row {w0 w : World} {s : S} {x y z : Value} (h : Pb w0 s x y z w) (n : Int) : Pb w0 (atRow s n) x y z (w.setCell ⟨w0.heap.size, 7, none⟩ (.int .i64 n)) :=
  h.only (h.pn.row n) ((Below.refl w0.heap.size w).setCell (show w0.heap.size ≤ w0.heap.size by omega) _) ((Only.refl w0.heap.size w).set _ _)
/-- It is copied into its first box. -/
theorem Pb.start {w0 w w' : World} {s : S} {x y z x' y' z' : Value} (h : Rz w0 s x y z w) (ho : Own w (w0.heap.size + 2) s x' y' z') (hs : Sto w w0.heap.size (sarr s x' y' z') w') : Pb w0 s x' y' z' w' :=
  ⟨⟨hs.box, hs.own ho (by omega), by omega, by rw [hs.size]; have := h.up; omega⟩, (hs.other _ (by omega)).trans h.b1, hs.below _ _ (Nat.le_refl _) h.bel⟩
/-- Its copy in memory of its own: only the slices are other. -/
structure Pc (w0 : World) (s : S) (x y z : Value) (w : World) : Prop where
  bel : Below w0.heap.size w0 w
  b0 : SBox w w0.heap.size s x y z
  b1 : w.heap[w0.heap.size + 1]? = some (.cells zarr 36 (0, 0))
theorem Pc.kept {w0 w w' : World} {s : S} {x y z : Value} (h : Pc w0 s x y z w) (hb : Below w.heap.size w w') : Pc w0 s x y z w' := ⟨h.bel.trans (hb.mono h.bel.size), h.b0.kept hb, Blk.kept h.b1 hb⟩
theorem Pc.putM {w0 w : World} {s : S} {x y z : Value} (h : Pc w0 s x y z w) (v : Value) : Pc w0 s v y z (w.setCell ⟨w0.heap.size, 2, none⟩ v) :=
  ⟨h.bel.setCell (show w0.heap.size ≤ w0.heap.size by omega) _, Blk.set h.b0 2 v, Blk.other h.b1 (by omega) _ _⟩
theorem Pc.putO {w0 w : World} {s : S} {x y z : Value} (h : Pc w0 s x y z w) (v : Value) : Pc w0 s x v z (w.setCell ⟨w0.heap.size, 5, none⟩ v) :=
  ⟨h.bel.setCell (show w0.heap.size ≤ w0.heap.size by omega) _, Blk.set h.b0 5 v, Blk.other h.b1 (by omega) _ _⟩
theorem Pc.putT {w0 w : World} {s : S} {x y z : Value} (h : Pc w0 s x y z w) (v : Value) : Pc w0 s x y v (w.setCell ⟨w0.heap.size, 39, none⟩ v) :=
  ⟨h.bel.setCell (show w0.heap.size ≤ w0.heap.size by omega) _, Blk.set h.b0 39 v, Blk.other h.b1 (by omega) _ _⟩
theorem Pc.up {w0 w : World} {s : S} {x y z : Value} (h : Pc w0 s x y z w) : w0.heap.size + 2 ≤ w.heap.size := Blk.lt h.b1
theorem Pc.start (w : World) (s : S) (x y z : Value) : Pc w s x y z ((w.alloc (.cells (sarr s x y z) 36)).alloc (.cells zarr 36)) :=
  ⟨(bel_alloc w _).alloc (by simp) _, heap_alloc2_old _ _ _, heap_alloc2_new _ _ _⟩
end Scr
end Go.Proofs.YtceaoadlhdgnmaaGreatDoor
end
