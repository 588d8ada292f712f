/- Joined texts: PrnPlain, ScrPn. -/
import Derived.Test.YtceaoadlhdgnmaaGreatDoorM17
import Derived.Test.YtceaoadlhdgnmaaGreatDoorM20
namespace Go.Proofs.YtceaoadlhdgnmaaGreatDoor
set_option maxRecDepth 100000
section
namespace Scr
open Go.Proofs.YtceaoadlhdgnmaaGreatDoor.Row
def putG (s : S) (G : Gr) : S := if s.swapped then { s with other := G } else { s with main := G }
def moveG (G : Gr) (top bot n : Int) (a : Look) : Gr := ⟨G.rows, G.cols, (moved (rowsOf G.cols.toNat G.rows.toNat G.cells) top.toNat bot.toNat n G.cols.toNat a).flatten⟩
def noWrap (s : S) : S := { s with cur := { s.cur with wrap := false } }
def atRow (s : S) (n : Int) : S := { s with cur := { s.cur with row := n } }
def downS (s : S) : S := if s.cur.row = s.bottom then putG (noWrap s) (moveG (seenG s) s.top s.bottom 1 s.cur.a) else atRow (noWrap s) (min (s.cur.row + 1) (s.main.rows - 1))
def backS (s : S) : S := if s.cur.row = s.top then putG (noWrap s) (moveG (seenG s) s.top s.bottom (-1) s.cur.a) else atRow (noWrap s) (max (s.cur.row - 1) 0)
theorem moveG_parts {R C : Nat} {rs : List (List Cl)} (h : Rws R C rs) (top bot n : Int) (a : Look) : moveG ⟨R, C, rs.flatten⟩ top bot n a = ⟨R, C, (moved rs top.toNat bot.toNat n C a).flatten⟩ := by
  unfold moveG
  show (⟨(R : Int), (C : Int), (moved (rowsOf ((C : Int).toNat) ((R : Int).toNat) rs.flatten) top.toNat bot.toNat n ((C : Int).toNat) a).flatten⟩ : Gr) = _
  rw [Int.toNat_natCast, Int.toNat_natCast, ← h.len, rowsOf_flatten h.even]
def numB (n : Int) : Bool := decide (-1 ≤ n) && decide (n ≤ 9999)
theorem numB_iff {n : Int} : numB n = true ↔ -1 ≤ n ∧ n ≤ 9999 := by unfold numB; rw [Bool.and_eq_true, decide_eq_true_eq, decide_eq_true_eq]
structure Facts (s : S) : Prop where
  r1 : 1 ≤ s.main.rows
  r40 : s.main.rows ≤ 40
  c1 : 1 ≤ s.main.cols
  c40 : s.main.cols ≤ 40
  row0 : 0 ≤ s.cur.row
  row1 : s.cur.row ≤ s.main.rows - 1
  col0 : 0 ≤ s.cur.col
  col1 : s.cur.col ≤ s.main.cols - 1
  top0 : 0 ≤ s.top
  tb : s.top ≤ s.bottom
  bot : s.bottom < s.main.rows
  a : attrOk s.cur.a = true
  g : gridB (seenG s) = true
  gr : (seenG s).rows = s.main.rows
  gc : (seenG s).cols = s.main.cols
theorem margins_iff {t b r : Int} (h : marginsB t b r = true) (hr : 1 ≤ r) : 0 ≤ t ∧ t ≤ b ∧ b < r := by
  have h1 := hr
  unfold marginsB at h
  by_cases e : r = 1
  · rw [if_pos e, Bool.and_eq_true, beq_iff_eq, beq_iff_eq] at h; omega
  · rw [if_neg e, Bool.and_eq_true, Bool.and_eq_true, decide_eq_true_eq, decide_eq_true_eq, decide_eq_true_eq] at h; omega
theorem Ok.facts {s : S} (h : Ok s) : Facts s := by
  have hs := gridB_sides h.m
  have hm := margins_iff h.g hs.1.1
  have hk := h.k1
  unfold cursorB at hk
  simp only [Bool.and_eq_true] at hk
  have h1 := rng_iff.1 hk.1
  have h2 := rng_iff.1 hk.2.1
  refine ⟨hs.1.1, hs.1.2, hs.2.1, hs.2.2, h1.1, h1.2, h2.1, h2.2, hm.1, hm.2.1, hm.2.2, hk.2.2.2.1, ?_, ?_, ?_⟩
  · unfold seenG; cases s.swapped
    · exact h.m
    · exact h.o
  · unfold seenG; cases s.swapped
    · rfl
    · exact h.r
  · unfold seenG; cases s.swapped
    · rfl
    · exact h.c
theorem moveG_ok {G : Gr} (h : gridB G = true) {top bot : Int} (h0 : 0 ≤ bot) (hb : bot < G.rows) (n : Int) {a : Look} (ha : attrOk a = true) : gridB (moveG G top bot n a) = true := by
  obtain ⟨R, C, rs, rfl, hr, _⟩ := parts_of h
  rw [moveG_parts hr]
  exact (gridB_iff _).2 (moved_rws hr (by have : bot < (R : Int) := hb; omega) n ha).grid
theorem noWrap_ok {s : S} (h : Ok s) : Ok (noWrap s) := by
  refine ⟨h.m, h.o, h.r, h.c, ?_, h.k2, h.k3, h.g, h.b, h.n, h.t, h.l⟩
  have hk := h.k1
  unfold cursorB at hk
  unfold cursorB noWrap
  simp only [Bool.and_eq_true] at hk ⊢
  exact ⟨hk.1, hk.2.1, rfl, hk.2.2.2⟩
theorem putG_ok {s : S} (h : Ok s) {G : Gr} (hg : gridB G = true) (hr : G.rows = s.main.rows) (hc : G.cols = s.main.cols) : Ok (putG s G) := by
  unfold putG
  cases s.swapped
  · exact ⟨hg, h.o, h.r.trans hr.symm, h.c.trans hc.symm, by rw [if_neg (by simp)]; show cursorB s.cur (G.rows - 1) (G.cols - 1) = true; rw [hr, hc]; exact h.k1, by rw [if_neg (by simp)]; show cursorB s.saved (G.rows - 1) (G.cols - 1) = true; rw [hr, hc]; exact h.k2, by rw [if_neg (by simp)]; show cursorB s.too (G.rows - 1) (G.cols - 1) = true; rw [hr, hc]; exact h.k3, by rw [if_neg (by simp)]; show marginsB s.top s.bottom G.rows = true; rw [hr]; exact h.g, by rw [if_neg (by simp)]; show (s.tabs.length : Int) = G.cols; rw [hc]; exact h.b, h.n, h.t, h.l⟩
  · exact ⟨h.m, hg, hr, hc, h.k1, h.k2, h.k3, h.g, h.b, h.n, h.t, h.l⟩
theorem atRow_ok {s : S} (h : Ok s) {n : Int} (h0 : 0 ≤ n) (h1 : n ≤ s.main.rows - 1) : Ok (atRow s n) := by
  refine ⟨h.m, h.o, h.r, h.c, ?_, h.k2, h.k3, h.g, h.b, h.n, h.t, h.l⟩
  have hk := h.k1
  unfold cursorB at hk
  unfold cursorB atRow
  simp only [Bool.and_eq_true] at hk ⊢
  exact ⟨rng_iff.2 ⟨h0, h1⟩, hk.2⟩
theorem downS_ok {s : S} (h : Ok s) : Ok (downS s) := by
  have f := h.facts
  unfold downS
  by_cases e : s.cur.row = s.bottom
  · rw [if_pos e]
    exact putG_ok (noWrap_ok h) (moveG_ok f.g (by have := f.top0; have := f.tb; omega) (by have := f.gr; have := f.bot; omega) 1 f.a) f.gr f.gc
  · rw [if_neg e]
    have := f.row0; have := f.row1; have := f.r1
    exact atRow_ok (noWrap_ok h) (by show 0 ≤ min (s.cur.row + 1) (s.main.rows - 1); omega) (by show min (s.cur.row + 1) (s.main.rows - 1) ≤ s.main.rows - 1; omega)
theorem Ok.lens {s : S} (h : Ok s) : s.main.cells.length ≤ 1000000 ∧ s.other.cells.length ≤ 1000000 ∧ s.tabs.length ≤ 1000000 := by
  have h1 := gridB_small h.m
  have h2 := gridB_small h.o
  have h3 := h.b
  have h4 := (gridB_sides h.m).2.2
  omega
end Scr
end
section
open Go.RowKit
namespace Scr
open Go.Proofs.YtceaoadlhdgnmaaGreatDoor.Row
structure Pn (w : World) (b base : Nat) (s : S) (x y z : Value) : Prop where
  box : SBox w b s x y z
  own : Own w base s x y z
  lt : b < base
  up : base ≤ w.heap.size
theorem Pn.kept {w w' : World} {b base : Nat} {s : S} {x y z : Value} (h : Pn w b base s x y z) (hb : Below w.heap.size w w') : Pn w' b base s x y z := ⟨h.box.kept hb, h.own.kept hb, h.lt, Nat.le_trans h.up hb.size⟩
theorem Only.trans {b : Nat} {w w' w2 : World} (h : Only b w w') (h2 : Only b w' w2) : Only b w w2 := ⟨Nat.le_trans h.1 h2.1, fun g o hg e => h2.2 g o hg (h.2 g o hg e)⟩
theorem Only.bel {b : Nat} {w w' w2 : World} (h : Only b w w') (h2 : Below w'.heap.size w' w2) : Only b w w2 := ⟨Nat.le_trans h.1 h2.size, fun g o hg e => Blk.kept (h.2 g o hg e) h2⟩
theorem Own.set {w : World} {base g : Nat} {s : S} {x y z : Value} (h : Own w base s x y z) (hg : g < base) (j : Nat) (u : Value) : Own (w.setCell ⟨g, j, none⟩ u) base s x y z := ⟨h.m.set hg j u, h.o.set hg j u, ownB_set h.t hg j u⟩
theorem Own.as {w : World} {base : Nat} {s : S} {x y z : Value} (h : Own w base s x y z) (s' : S) (hm : s'.main.cells = s.main.cells) (ho : s'.other.cells = s.other.cells) (ht : s'.tabs = s.tabs) : Own w base s' x y z :=
  ⟨by rw [hm]; exact h.m, by rw [ho]; exact h.o, by rw [ht]; exact h.t⟩
theorem size_set (w : World) (a : Addr) (u : Value) : (w.setCell a u).heap.size = w.heap.size := by simp [World.setCell]
theorem Pn.wrap {w : World} {b base : Nat} {s : S} {x y z : Value} (h : Pn w b base s x y z) : Pn (w.setCell ⟨b, 9, none⟩ (.bool false)) b base (noWrap s) x y z :=
  ⟨Blk.set h.box 9 _, (h.own.set h.lt 9 _).as _ rfl rfl rfl, h.lt, by rw [size_set]; exact h.up⟩
theorem Pn.row {w : World} {b base : Nat} {s : S} {x y z : Value} (h : Pn w b base s x y z) (n : Int) : Pn (w.setCell ⟨b, 7, none⟩ (.int .i64 n)) b base (atRow s n) x y z :=
  ⟨Blk.set h.box 7 _, (h.own.set h.lt 7 _).as _ rfl rfl rfl, h.lt, by rw [size_set]; exact h.up⟩
structure Pb (w0 : World) (s : S) (x y z : Value) (w : World) : Prop where
  pn : Pn w w0.heap.size (w0.heap.size + 2) s x y z
  b1 : w.heap[w0.heap.size + 1]? = some (.cells zarr 36 (0, 0))
  bel : Below w0.heap.size w0 w
theorem Pb.kept {w0 w w' : World} {s : S} {x y z : Value} (h : Pb w0 s x y z w) (hb : Below w.heap.size w w') : Pb w0 s x y z w' := ⟨h.pn.kept hb, Blk.kept h.b1 hb, h.bel.trans (hb.mono h.bel.size)⟩
theorem Pb.only {w0 w w' : World} {s s' : S} {x y z x' y' z' : Value} (h : Pb w0 s x y z w) (hp : Pn w' w0.heap.size (w0.heap.size + 2) s' x' y' z') (hb : Below w0.heap.size w w') (ho : Only w0.heap.size w w') : Pb w0 s' x' y' z' w' :=
  ⟨hp, ho.2 _ _ (by omega) h.b1, h.bel.trans hb⟩
theorem Pb.wrap {w0 w : World} {s : S} {x y z : Value} (h : Pb w0 s x y z w) : Pb w0 (noWrap s) x y z (w.setCell ⟨w0.heap.size, 9, none⟩ (.bool false)) :=
  h.only h.pn.wrap ((Below.refl w0.heap.size w).setCell (show w0.heap.size ≤ w0.heap.size by omega) _) ((Only.refl w0.heap.size w).set _ _)
theorem Pb.row {w0 w : World} {s : S} {x y z : Value} (h : Pb w0 s x y z w) (n : Int) : Pb w0 (atRow s n) x y z (w.setCell ⟨w0.heap.size, 7, none⟩ (.int .i64 n)) :=
  h.only (h.pn.row n) ((Below.refl w0.heap.size w).setCell (show w0.heap.size ≤ w0.heap.size by omega) _) ((Only.refl w0.heap.size w).set _ _)
theorem Pb.start {w0 w w' : World} {s : S} {x y z x' y' z' : Value} (h : Rz w0 s x y z w) (ho : Own w (w0.heap.size + 2) s x' y' z') (hs : Sto w w0.heap.size (sarr s x' y' z') w') : Pb w0 s x' y' z' w' :=
  ⟨⟨hs.box, hs.own ho (by omega), by omega, by rw [hs.size]; have := h.up; omega⟩, (hs.other _ (by omega)).trans h.b1, hs.below _ _ (Nat.le_refl _) h.bel⟩
structure Pc (w0 : World) (s : S) (x y z : Value) (w : World) : Prop where
  bel : Below w0.heap.size w0 w
  b0 : SBox w w0.heap.size s x y z
  b1 : w.heap[w0.heap.size + 1]? = some (.cells zarr 36 (0, 0))
theorem Pc.kept {w0 w w' : World} {s : S} {x y z : Value} (h : Pc w0 s x y z w) (hb : Below w.heap.size w w') : Pc w0 s x y z w' := ⟨h.bel.trans (hb.mono h.bel.size), h.b0.kept hb, Blk.kept h.b1 hb⟩
theorem Pc.putM {w0 w : World} {s : S} {x y z : Value} (h : Pc w0 s x y z w) (v : Value) : Pc w0 s v y z (w.setCell ⟨w0.heap.size, 2, none⟩ v) :=
  ⟨h.bel.setCell (show w0.heap.size ≤ w0.heap.size by omega) _, Blk.set h.b0 2 v, Blk.other h.b1 (by omega) _ _⟩
theorem Pc.putO {w0 w : World} {s : S} {x y z : Value} (h : Pc w0 s x y z w) (v : Value) : Pc w0 s x v z (w.setCell ⟨w0.heap.size, 5, none⟩ v) :=
  ⟨h.bel.setCell (show w0.heap.size ≤ w0.heap.size by omega) _, Blk.set h.b0 5 v, Blk.other h.b1 (by omega) _ _⟩
theorem Pc.putT {w0 w : World} {s : S} {x y z : Value} (h : Pc w0 s x y z w) (v : Value) : Pc w0 s x y v (w.setCell ⟨w0.heap.size, 39, none⟩ v) :=
  ⟨h.bel.setCell (show w0.heap.size ≤ w0.heap.size by omega) _, Blk.set h.b0 39 v, Blk.other h.b1 (by omega) _ _⟩
theorem Pc.up {w0 w : World} {s : S} {x y z : Value} (h : Pc w0 s x y z w) : w0.heap.size + 2 ≤ w.heap.size := Blk.lt h.b1
theorem Pc.start (w : World) (s : S) (x y z : Value) : Pc w s x y z ((w.alloc (.cells (sarr s x y z) 36)).alloc (.cells zarr 36)) :=
  ⟨(bel_alloc w _).alloc (by simp) _, heap_alloc2_old _ _ _, heap_alloc2_new _ _ _⟩
end Scr
end
end Go.Proofs.YtceaoadlhdgnmaaGreatDoor
