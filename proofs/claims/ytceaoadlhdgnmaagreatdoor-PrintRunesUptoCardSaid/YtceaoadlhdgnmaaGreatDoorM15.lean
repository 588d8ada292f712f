/- Joined texts: ScrNew, ScrSize. -/
import Derived.Test.YtceaoadlhdgnmaaGreatDoorM9
import Derived.Test.YtceaoadlhdgnmaaGreatDoorM14
import Derived.Test.YtceaoadlhdgnmaaGreatDoorM33
import Derived.Deep.DeepCutAuto
import Derived.Deep.RegionLaw
import Derived.Deep.CutRange
namespace Go.Proofs.YtceaoadlhdgnmaaGreatDoor
set_option maxRecDepth 100000
section
open Go.RowKit
namespace Scr
open Go.Proofs.YtceaoadlhdgnmaaGreatDoor.Row
theorem bel_alloc' (w : World) (o : Obj) : Below w.heap.size w (w.alloc o) := (Below.refl _ _).alloc (Nat.le_refl _) _
theorem bel0 (w : World) : Below w.heap.size w (w.alloc (.cells zarr 36)) := (Below.refl _ _).alloc (Nat.le_refl _) _
structure Nw (w0 w : World) : Prop where
  bel : Below w0.heap.size w0 w
  box : w.heap[w0.heap.size]? = some (.cells zarr 36 (0, 0))
theorem Nw.kept {w0 w w' : World} (h : Nw w0 w) (hb : Below w.heap.size w w') : Nw w0 w' := ⟨h.bel.trans (hb.mono h.bel.size), Blk.kept h.box hb⟩
theorem Nw.up {w0 w : World} (h : Nw w0 w) : w0.heap.size + 1 ≤ w.heap.size := Blk.lt h.box
theorem Nw.start (w : World) : Nw w (w.alloc (.cells zarr 36)) := ⟨bel0 w, heap_alloc_new _ _⟩
structure NwM (w0 : World) (r c : Nat) (b : Nat) (X : Value) (w : World) : Prop where
  n : Nw w0 w
  bx : w.heap[b]? = some (gbox r c X)
  m : OwnCs w (w0.heap.size + 1) X (news r c plain).flatten
theorem NwM.kept {w0 w w' : World} {r c b : Nat} {X : Value} (h : NwM w0 r c b X w) (hb : Below w.heap.size w w') : NwM w0 r c b X w' := ⟨h.n.kept hb, Blk.kept h.bx hb, h.m.kept hb⟩
theorem NwM.make {w0 w : World} (h : Nw w0 w) (r c : Nat) {X : Value} (hm : OwnCs w (w0.heap.size + 1) X (news r c plain).flatten) : NwM w0 r c w.heap.size X (w.alloc (gbox r c X)) :=
  ⟨h.kept (bel_alloc' w _), heap_alloc_new _ _, hm.kept (bel_alloc' w _)⟩
structure NwO (w0 : World) (r c : Nat) (b b' : Nat) (X Y : Value) (w : World) : Prop where
  n : NwM w0 r c b X w
  bx : w.heap[b']? = some (gbox r c Y)
  m : OwnCs w (w0.heap.size + 1) Y (news r c plain).flatten
theorem NwO.kept {w0 w w' : World} {r c b b' : Nat} {X Y : Value} (h : NwO w0 r c b b' X Y w) (hb : Below w.heap.size w w') : NwO w0 r c b b' X Y w' := ⟨h.n.kept hb, Blk.kept h.bx hb, h.m.kept hb⟩
theorem NwO.make {w0 w : World} {r c b : Nat} {X : Value} (h : NwM w0 r c b X w) {Y : Value} (hm : OwnCs w (w0.heap.size + 1) Y (news r c plain).flatten) : NwO w0 r c b w.heap.size X Y (w.alloc (gbox r c Y)) :=
  ⟨h.kept (bel_alloc' w _), heap_alloc_new _ _, hm.kept (bel_alloc' w _)⟩
structure NwT (w0 : World) (r c : Nat) (b b' : Nat) (X Y Z : Value) (w : World) : Prop where
  n : NwO w0 r c b b' X Y w
  m : Tab.OwnB w (w0.heap.size + 1) Z (Tab.grownOf [] c)
theorem NwT.kept {w0 w w' : World} {r c b b' : Nat} {X Y Z : Value} (h : NwT w0 r c b b' X Y Z w) (hb : Below w.heap.size w w') : NwT w0 r c b b' X Y Z w' := ⟨h.n.kept hb, h.m.kept hb⟩
end Scr
end
section
open Go.RowKit
namespace Scr
open Go.Proofs.YtceaoadlhdgnmaaGreatDoor.Row
theorem rowsOf_flatten {c : Nat} : ∀ {rs : List (List Cl)}, Even c rs → rowsOf c rs.length rs.flatten = rs
  | [], _ => rfl
  | r :: rs, h => by
    rw [List.length_cons, rowsOf, List.flatten_cons, List.take_left' h.head, List.drop_left' h.head, rowsOf_flatten h.tail]
theorem parts_of {G : Gr} (h : gridB G = true) : ∃ (R C : Nat) (rs : List (List Cl)), G = ⟨R, C, rs.flatten⟩ ∧ Rws R C rs ∧ ∀ r c, fitG G r c = ⟨r, c, (fitted rs r c plain).flatten⟩ := by
  obtain ⟨R, C, rs, rfl, hr⟩ := ((gridB_iff G).1 h).parted
  refine ⟨R, C, rs, rfl, hr, fun r c => ?_⟩
  unfold fitG
  show (⟨r, c, (fitted (rowsOf ((C : Int).toNat) ((R : Int).toNat) rs.flatten) r c plain).flatten⟩ : Gr) = _
  rw [Int.toNat_natCast, Int.toNat_natCast, ← hr.len, rowsOf_flatten hr.even]
structure Rz (w0 : World) (s : S) (x y z : Value) (w : World) : Prop where
  bel : Below w0.heap.size w0 w
  b0 : SBox w w0.heap.size s x y z
  b1 : w.heap[w0.heap.size + 1]? = some (.cells zarr 36 (0, 0))
theorem Rz.kept {w0 w w' : World} {s : S} {x y z : Value} (h : Rz w0 s x y z w) (hb : Below w.heap.size w w') : Rz w0 s x y z w' := ⟨h.bel.trans (hb.mono h.bel.size), h.b0.kept hb, Blk.kept h.b1 hb⟩
theorem Rz.up {w0 w : World} {s : S} {x y z : Value} (h : Rz w0 s x y z w) : w0.heap.size + 2 ≤ w.heap.size := Blk.lt h.b1
theorem Rz.start (w : World) (s : S) (x y z : Value) : Rz w s x y z ((w.alloc (.cells (sarr s x y z) 36)).alloc (.cells zarr 36)) :=
  ⟨(bel_alloc w _).alloc (by simp) _, heap_alloc2_old _ _ _, heap_alloc2_new _ _ _⟩
theorem Rz.main {w0 w : World} {s : S} {x y z : Value} (h : Rz w0 s x y z w) (R C : Int) (l : List Cl) (v : Value) : Rz w0 { s with main := ⟨R, C, l⟩ } v y z (gput w w0.heap.size R C v) :=
  ⟨gput_below h.bel (Nat.le_refl _) _ _ v, h.b0.putMain R C l v, gput_other h.b1 (by omega) _ _ _⟩
theorem Rz.other {w0 w : World} {s : S} {x y z : Value} (h : Rz w0 s x y z w) (R C : Int) (l : List Cl) (v : Value) : Rz w0 { s with other := ⟨R, C, l⟩ } x v z (oput w w0.heap.size R C v) :=
  ⟨oput_below h.bel (Nat.le_refl _) _ _ v, h.b0.putOther R C l v, oput_other h.b1 (by omega) _ _ _⟩
theorem Rz.tabs {w0 w : World} {s : S} {x y z : Value} (h : Rz w0 s x y z w) (l : List Bool) (v : Value) : Rz w0 { s with tabs := l } x y v (w.setCell ⟨w0.heap.size, 39, none⟩ v) :=
  ⟨h.bel.setCell (Nat.le_refl _) _, h.b0.putTabs l v, Blk.other h.b1 (by omega) _ _⟩
def kput (w : World) (b p : Nat) (n m : Int) (q : Bool) : World := ((w.setCell ⟨b, p, none⟩ (.int .i64 n)).setCell ⟨b, p + 1, none⟩ (.int .i64 m)).setCell ⟨b, p + 2, none⟩ (.bool q)
theorem SBox.putCur {w : World} {b : Nat} {s : S} {x y z : Value} (h : SBox w b s x y z) (n m : Int) (q : Bool) : SBox (kput w b 7 n m q) b { s with cur := { s.cur with row := n, col := m, wrap := q } } x y z := Blk.set (Blk.set (Blk.set h 7 _) 8 _) 9 _
theorem SBox.putSaved {w : World} {b : Nat} {s : S} {x y z : Value} (h : SBox w b s x y z) (n m : Int) (q : Bool) : SBox (kput w b 17 n m q) b { s with saved := { s.saved with row := n, col := m, wrap := q } } x y z := Blk.set (Blk.set (Blk.set h 17 _) 18 _) 19 _
theorem SBox.putToo {w : World} {b : Nat} {s : S} {x y z : Value} (h : SBox w b s x y z) (n m : Int) (q : Bool) : SBox (kput w b 27 n m q) b { s with too := { s.too with row := n, col := m, wrap := q } } x y z := Blk.set (Blk.set (Blk.set h 27 _) 28 _) 29 _
theorem kput_other {w : World} {g b p : Nat} {o : Obj} (h : w.heap[b]? = some o) (hn : b ≠ g) (n m : Int) (q : Bool) : (kput w g p n m q).heap[b]? = some o := Blk.other (Blk.other (Blk.other h hn _ _) hn _ _) hn _ _
theorem kput_below {B g p : Nat} {a w : World} (h : Below B a w) (hB : B ≤ g) (n m : Int) (q : Bool) : Below B a (kput w g p n m q) := ((h.setCell hB _).setCell hB _).setCell hB _
theorem Rz.cur {w0 w : World} {s : S} {x y z : Value} (h : Rz w0 s x y z w) (n m : Int) (q : Bool) : Rz w0 { s with cur := { s.cur with row := n, col := m, wrap := q } } x y z (kput w w0.heap.size 7 n m q) :=
  ⟨kput_below h.bel (Nat.le_refl _) _ _ _, h.b0.putCur n m q, kput_other h.b1 (by omega) _ _ _⟩
theorem Rz.saved {w0 w : World} {s : S} {x y z : Value} (h : Rz w0 s x y z w) (n m : Int) (q : Bool) : Rz w0 { s with saved := { s.saved with row := n, col := m, wrap := q } } x y z (kput w w0.heap.size 17 n m q) :=
  ⟨kput_below h.bel (Nat.le_refl _) _ _ _, h.b0.putSaved n m q, kput_other h.b1 (by omega) _ _ _⟩
theorem Rz.too {w0 w : World} {s : S} {x y z : Value} (h : Rz w0 s x y z w) (n m : Int) (q : Bool) : Rz w0 { s with too := { s.too with row := n, col := m, wrap := q } } x y z (kput w w0.heap.size 27 n m q) :=
  ⟨kput_below h.bel (Nat.le_refl _) _ _ _, h.b0.putToo n m q, kput_other h.b1 (by omega) _ _ _⟩
end Scr
end
end Go.Proofs.YtceaoadlhdgnmaaGreatDoor
