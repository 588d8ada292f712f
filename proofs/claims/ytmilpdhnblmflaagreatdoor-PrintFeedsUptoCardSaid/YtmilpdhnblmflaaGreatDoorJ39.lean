/- Joined texts: ScrLawO. -/
import Derived.Test.YtmilpdhnblmflaaGreatDoorJ1
import Derived.Test.YtmilpdhnblmflaaGreatDoorJ2
import Derived.Test.YtmilpdhnblmflaaGreatDoorJ3
import Derived.Test.YtmilpdhnblmflaaGreatDoorJ4
import Derived.Test.YtmilpdhnblmflaaGreatDoorJ5
import Derived.Test.YtmilpdhnblmflaaGreatDoorJ6
import Derived.Test.YtmilpdhnblmflaaGreatDoorJ7
import Derived.Test.YtmilpdhnblmflaaGreatDoorJ8
import Derived.Test.YtmilpdhnblmflaaGreatDoorJ9
import Derived.Test.YtmilpdhnblmflaaGreatDoorJ10
import Derived.Test.YtmilpdhnblmflaaGreatDoorJ11
import Derived.Test.YtmilpdhnblmflaaGreatDoorJ12
import Derived.Test.YtmilpdhnblmflaaGreatDoorJ13
import Derived.Test.YtmilpdhnblmflaaGreatDoorJ14
import Derived.Test.YtmilpdhnblmflaaGreatDoorJ15
import Derived.Test.YtmilpdhnblmflaaGreatDoorJ16
import Derived.Test.YtmilpdhnblmflaaGreatDoorJ17
section
/- The law on screens resized to their own size: walked. -/
namespace Go.Proofs.YtmilpdhnblmflaaGreatDoor
set_option maxRecDepth 100000
open Go.RowKit
namespace Scr
open Go.Proofs.YtmilpdhnblmflaaGreatDoor.Row

abbrev abox (v : Value) (n m k r : Int) : Obj := .cells #[v, .int .i64 n, .int .i64 m, .int .i64 k, .int .i64 r] 24
/-- The law under way: what was there stands, its argument lies in its box. -/
structure Run (w w' : World) (v : Value) (n m k r : Int) : Prop where
  bel : Below w.heap.size w w'
  box : w'.heap[w.heap.size]? = some (abox v n m k r)
theorem Run.kept {w w1 w2 : World} {v : Value} {n m k r : Int} (h : Run w w1 v n m k r) (hb : Below w1.heap.size w1 w2) : Run w w2 v n m k r := ⟨h.bel.trans (hb.mono h.bel.size), Blk.kept h.box hb⟩
theorem Run.start (w : World) (v : Value) (n m k r : Int) : Run w (w.alloc (abox v n m k r)) v n m k r := ⟨bel_alloc w _, heap_alloc_new _ _⟩
/-- A screen in a box of the law's own, in new memory or as it came. -/
structure Bx (w : World) (b : Nat) (e : Sc) : Prop where
  box : SBox w b e.s e.x e.y e.z
  i : e.in_ w
theorem Bx.kept {w w' : World} {b : Nat} {e : Sc} (h : Bx w b e) (hb : Below w.heap.size w w') : Bx w' b e := ⟨h.box.kept hb, h.i.kept hb⟩
/-- One stored into a box just made. -/
theorem bx_sto {w w' : World} {e : Sc} (h : e.in_ w) (h1 : Sto (w.alloc (.cells zarr 38)) w.heap.size (sarr e.s e.x e.y e.z) w') : Bx w' w.heap.size e ∧ Below w.heap.size w w' := by
  have hb : Below w.heap.size w w' := h1.below _ _ (Nat.le_refl _) (bel_alloc w _)
  exact ⟨⟨h1.box, h.kept hb⟩, hb⟩
theorem Reach.holds {bnd : Nat} {s : S} (h : Reach bnd s) (hb : bnd ≤ 1152921504606846976) : Holds s := ⟨fun i hi => Nat.le_trans (h.m.2 i hi) hb, fun i hi => Nat.le_trans (h.o.2 i hi) hb, Nat.le_trans h.t hb⟩
theorem resize_is (s : S) (x y z : Value) (r c : Int) (R C : Nat) (hr : r = R) (hc : c = C) (w : World) (h : In w s x y z) (hh : Holds s) (hT : Tabs w) (hok : Ok s) (h1 : 1 ≤ R) (h2 : R ≤ 40) (h3 : 1 ≤ C) (h4 : C ≤ 40) :
    Calls Tryz.prog 14 #[sv s x y z, .int .i64 r, .int .i64 c] w fun e w' => ∃ x' y' z', e = .returned (.tuple #[sv (resized s R C) x' y' z', .int .i64 0]) ∧ In w' (resized s R C) x' y' z' ∧ Below w.heap.size w w' := by
  subst hr; subst hc
  refine (resize_any s x y z R C w h hh hT ((ok_iff s).2 hok) h1 h2 h3 h4).mono ?_
  rintro e w' ⟨x', y', z', rfl, ho, hb⟩
  exact ⟨x', y', z', rfl, ho.in_, hb⟩
theorem eqGrid_is {G G' : Gr} (hG : G = G') (x y : Value) (w : World) (hx : Rm w x G.cells) (hy : Rm w y G'.cells) (hn : G'.cells.length ≤ 100000000) :
    Calls Tryz.prog 57 #[gridV G x, gridV G' y] w fun e w' => e = .returned (.bool true) ∧ Below w.heap.size w w' := by
  subst hG
  exact eqGrid_same G.rows G.cols G.cells x y w hx.cs hy.cs hn
/-- What the law's screens are: as it came; resized to its own size; larger and back. -/
structure Sizes (t s1 s3 : S) : Prop where
  m1 : s1.main = t.main
  o1 : s1.other = t.other
  m3 : s3.main = t.main
  o3 : s3.other = t.other
theorem sizes_of {t : S} (h : Ok t) {r c : Nat} (h2 : r ≤ 40) (h4 : c ≤ 40) (hr : t.main.rows.toNat ≤ r) (hc : t.main.cols.toNat ≤ c) :
    Sizes t (resized t t.main.rows.toNat t.main.cols.toNat) (resized (resized t r c) t.main.rows.toNat t.main.cols.toNat) := by
  have e1 : fitG t.other t.main.rows.toNat t.main.cols.toNat = t.other := by rw [← h.r, ← h.c]; exact fitG_own h.o
  have e2 : fitG (fitG t.other r c) t.main.rows.toNat t.main.cols.toNat = t.other := by
    rw [← h.r, ← h.c]
    exact fitG_back h.o h2 h4 (by rw [h.r]; exact hr) (by rw [h.c]; exact hc)
  exact ⟨fitG_own h.m, e1, fitG_back h.m h2 h4 hr hc, e2⟩
/-- Three boxes of screens, and the law's own. -/
structure Three (w : World) (v : Value) (n m k r : Int) (b4 b5 b9 : Nat) (e4 e5 e9 : Sc) (w' : World) : Prop where
  r : Run w w' v n m k r
  x4 : Bx w' b4 e4
  x5 : Bx w' b5 e5
  x9 : Bx w' b9 e9
theorem Three.kept {w w1 w2 : World} {v : Value} {n m k r : Int} {b4 b5 b9 : Nat} {e4 e5 e9 : Sc} (h : Three w v n m k r b4 b5 b9 e4 e5 e9 w1) (hb : Below w1.heap.size w1 w2) : Three w v n m k r b4 b5 b9 e4 e5 e9 w2 :=
  ⟨h.r.kept hb, h.x4.kept hb, h.x5.kept hb, h.x9.kept hb⟩
theorem three_then {f : FuncId} {args : Array Value} {w w1 : World} {v0 : Value} {Q : Ending → World → Prop} {v : Value} {n m k r : Int} {b4 b5 b9 : Nat} {e4 e5 e9 : Sc} (H : Hid (Three w v n m k r b4 b5 b9 e4 e5 e9 w1))
    (h : Calls Tryz.prog f args w1 fun e w' => e = .returned v0 ∧ Below w1.heap.size w1 w')
    (hQ : ∀ w', Hid (Three w v n m k r b4 b5 b9 e4 e5 e9 w') → (∀ j, w'.cell? ⟨b4, j, none⟩ = (sarr e4.s e4.x e4.y e4.z)[j]?) → (∀ j, w'.cell? ⟨b5, j, none⟩ = (sarr e5.s e5.x e5.y e5.z)[j]?) → (∀ j, w'.cell? ⟨b9, j, none⟩ = (sarr e9.s e9.x e9.y e9.z)[j]?) → Q (.returned v0) w') : Calls Tryz.prog f args w1 Q :=
  h.mono (by rintro e w' ⟨rfl, hb⟩; have h3 := H.out.kept hb; exact hQ w' (Lib.hid h3) h3.x4.box.cell h3.x5.box.cell h3.x9.box.cell)
end Scr
end Go.Proofs.YtmilpdhnblmflaaGreatDoor
end
