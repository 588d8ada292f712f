/- Joined texts: ScrUni0, ScrRun, ScrLt, ScrKeys. -/
import Derived.Test.YtceaoadlhdgnmaaGreatDoorM25
import Derived.Test.YtceaoadlhdgnmaaGreatDoorM31
import Derived.Test.YtceaoadlhdgnmaaGreatDoorM43
namespace Go.Proofs.YtceaoadlhdgnmaaGreatDoor
set_option maxRecDepth 100000
section
open Go.RowKit
namespace Scr
open Go.Proofs.YtceaoadlhdgnmaaGreatDoor.Row
def wi8 (i : Int) (n : Nat) : Nat := (i % 18446744073709551616).toNat % n
theorem Ok.lens8 {s : S} (h : Ok s) : Lens s := by
  have h1 := gridB_small h.m
  have h2 := gridB_small h.o
  have h3 := h.b
  have h4 := (gridB_sides h.m).2.2
  exact ⟨by omega, by omega, by omega⟩
structure Ans (w w' : World) (may : Bool) (X0 X : S) (x y z : Value) (code : Int) : Prop where
  bel : Below w.heap.size w w'
  own : Own w' w.heap.size X x y z
  code : code = codeB may
  yes : may = true → X = X0
  no : may = false → X = noS ∧ x = nilS ∧ y = nilS ∧ z = nilS
structure Fit8 (s : S) : Prop where
  h : Holds s
  sh : Shorts s
  l : Lens s
theorem fit8 {s : S} (hr : Reach 1048576 s) (hw : weigh s ≤ 5000) : Fit8 s := by
  unfold weigh at hw
  exact ⟨⟨fun i hi => Nat.le_trans (hr.m.2 i hi) (by decide), fun i hi => Nat.le_trans (hr.o.2 i hi) (by decide), Nat.le_trans hr.t (by decide)⟩,
    ⟨fun i hi => Nat.le_trans (hr.m.2 i hi) (by decide), fun i hi => Nat.le_trans (hr.o.2 i hi) (by decide), Nat.le_trans hr.t (by decide), by omega, by omega⟩, ⟨by omega, by omega, by omega⟩⟩
theorem Sto.own2 {w w' : World} {b base : Nat} {A old : Array Value} {s : S} {x y z : Value} (h : Sto w b A w') (hb : w.heap[b]? = some (.cells old 36 (0, 0))) (ho : Own w base s x y z) : Own w' base s x y z := by
  have k1 : ∀ {v : Value} {l : List Cl}, OwnCs w base v l → OwnCs w' base v l := fun {v l} hv => by
    have hn := scr_ne hv hb
    refine ⟨hv.1, ?_⟩
    rcases hv.2 with h0 | ⟨g, cap, cur, rfl, hg, hc, rest⟩
    · exact .inl h0
    · exact .inr ⟨g, cap, cur, rfl, hg, (h.other g (fun e => hn (by subst e; rfl))).trans hc, rest⟩
  refine ⟨k1 ho.m, k1 ho.o, ?_⟩
  have hn := scr_neB ho.t hb
  refine ⟨ho.t.1, ?_⟩
  rcases ho.t.2 with h0 | ⟨g, cap, cur, rfl, hg, hc, rest⟩
  · exact .inl h0
  · exact .inr ⟨g, cap, cur, rfl, hg, (h.other g (fun e => hn (by subst e; rfl))).trans hc, rest⟩
theorem Sto.boxed {w w' : World} {b g : Nat} {A A' : Array Value} (h : Sto w b A w') (hn : g ≠ b) (hb : w.heap[g]? = some (.cells A' 36 (0, 0))) : w'.heap[g]? = some (.cells A' 36 (0, 0)) := (h.other g hn).trans hb
end Scr
end
section
open Go.RowKit
namespace Scr
open Go.Proofs.YtceaoadlhdgnmaaGreatDoor.Row
abbrev abox (v : Value) (n m k r : Int) : Obj := .cells #[v, .int .i64 n, .int .i64 m, .int .i64 k, .int .i64 r] 24
structure Run (w w' : World) (v : Value) (n m k r : Int) : Prop where
  bel : Below w.heap.size w w'
  box : w'.heap[w.heap.size]? = some (abox v n m k r)
theorem Run.kept {w w1 w2 : World} {v : Value} {n m k r : Int} (h : Run w w1 v n m k r) (hb : Below w1.heap.size w1 w2) : Run w w2 v n m k r := ⟨h.bel.trans (hb.mono h.bel.size), Blk.kept h.box hb⟩
theorem Run.start (w : World) (v : Value) (n m k r : Int) : Run w (w.alloc (abox v n m k r)) v n m k r := ⟨bel_alloc w _, heap_alloc_new _ _⟩
structure Bx (w : World) (b : Nat) (e : Sc) : Prop where
  box : SBox w b e.s e.x e.y e.z
  i : e.in_ w
theorem Bx.kept {w w' : World} {b : Nat} {e : Sc} (h : Bx w b e) (hb : Below w.heap.size w w') : Bx w' b e := ⟨h.box.kept hb, h.i.kept hb⟩
theorem bx_sto {w w' : World} {e : Sc} (h : e.in_ w) (h1 : Sto (w.alloc (.cells zarr 36)) w.heap.size (sarr e.s e.x e.y e.z) w') : Bx w' w.heap.size e ∧ Below w.heap.size w w' := by
  have hb : Below w.heap.size w w' := h1.below _ _ (Nat.le_refl _) (bel_alloc w _)
  exact ⟨⟨h1.box, h.kept hb⟩, hb⟩
theorem Reach.holds {bnd : Nat} {s : S} (h : Reach bnd s) (hb : bnd ≤ 1152921504606846976) : Holds s := ⟨fun i hi => Nat.le_trans (h.m.2 i hi) hb, fun i hi => Nat.le_trans (h.o.2 i hi) hb, Nat.le_trans h.t hb⟩
end Scr
end
section
open Go.RowKit
namespace Scr
open Go.Proofs.YtceaoadlhdgnmaaGreatDoor.Row
structure Lt3 (x y z : Value) (B : Nat) : Prop where
  x : ∀ k, x.ownBlock = some k → k < B
  y : ∀ k, y.ownBlock = some k → k < B
  z : ∀ k, z.ownBlock = some k → k < B
theorem Own.lt3 {w : World} {base : Nat} {s : S} {x y z : Value} (h : Own w base s x y z) : Lt3 x y z w.heap.size :=
  ⟨fun k e => (h.m.lt k e).2, fun k e => (h.o.lt k e).2, fun k e => (World.ownsRow.lt h.t k e).2⟩
theorem Own.keptB {w w' : World} {base B : Nat} {s : S} {x y z : Value} (h : Own w base s x y z) (hl : Lt3 x y z B) (hb : Below B w w') : Own w' base s x y z := by
  have k1 : ∀ {v : Value} {l : List Cl}, OwnCs w base v l → (∀ k, v.ownBlock = some k → k < B) → OwnCs w' base v l := fun {v l} hv hlt => by
    refine ⟨hv.1, ?_⟩
    rcases hv.2 with h0 | ⟨g, cap, cur, rfl, hg, hc, rest⟩
    · exact .inl h0
    · exact .inr ⟨g, cap, cur, rfl, hg, (hb.block g (hlt g rfl)).trans hc, rest⟩
  refine ⟨k1 h.m hl.x, k1 h.o hl.y, h.t.1, ?_⟩
  rcases h.t.2 with h0 | ⟨g, cap, cur, hv, hg, hc, rest⟩
  · exact .inl h0
  · exact .inr ⟨g, cap, cur, hv, hg, (hb.block g (hl.z g (by rw [hv]; rfl))).trans hc, rest⟩
structure Mv (wq : World) (b10 b11 b14 B : Nat) (s : S) (xi yi zi : Value) (X : S) (x y z : Value) (Wn : S) (x' y' z' : Value) (wx : World) : Prop where
  bel : Below wq.heap.size wq wx
  up : B ≤ wx.heap.size
  x10 : SBox wx b10 s xi yi zi
  x11 : SBox wx b11 X x y z
  x14 : SBox wx b14 Wn x' y' z'
  own : Own wx B X x y z
  ini : Own wx 0 s xi yi zi
  want : In wx Wn x' y' z'
  lti : Lt3 xi yi zi B
  n1 : b10 ≠ b14
  n2 : b11 ≠ b14
  lo : wq.heap.size ≤ b14
  lo2 : wq.heap.size ≤ B
theorem Mv.kept {wq w w' : World} {b10 b11 b14 B : Nat} {s X Wn : S} {xi yi zi x y z x' y' z' : Value} (h : Mv wq b10 b11 b14 B s xi yi zi X x y z Wn x' y' z' w) (hb : Below w.heap.size w w') : Mv wq b10 b11 b14 B s xi yi zi X x y z Wn x' y' z' w' :=
  ⟨h.bel.trans (hb.mono h.bel.size), Nat.le_trans h.up hb.size, h.x10.kept hb, h.x11.kept hb, h.x14.kept hb, h.own.kept hb, h.ini.kept hb, h.want.kept hb, h.lti, h.n1, h.n2, h.lo, h.lo2⟩
theorem Mv.put {wq wy wz : World} {b10 b11 b14 B base : Nat} {s X Wn N : S} {xi yi zi x y z x' y' z' a b c : Value} (h : Mv wq b10 b11 b14 B s xi yi zi X x y z Wn x' y' z' wy) (ho : Own wy base N a b c) (hs : Sto wy b14 (sarr N a b c) wz) :
    Mv wq b10 b11 b14 B s xi yi zi X x y z N a b c wz :=
  ⟨hs.below _ _ h.lo h.bel, by rw [hs.size]; exact h.up, hs.boxed h.n1 h.x10, hs.boxed h.n2 h.x11, hs.box, hs.own2 h.x14 h.own, hs.own2 h.x14 h.ini, (hs.own2 h.x14 ho).in_, h.lti, h.n1, h.n2, h.lo, h.lo2⟩
structure Mu (wq : World) (b10 b11 B : Nat) (s : S) (xi yi zi : Value) (X : S) (x y z : Value) (wx : World) : Prop where
  bel : Below wq.heap.size wq wx
  up : B ≤ wx.heap.size
  x10 : SBox wx b10 s xi yi zi
  x11 : SBox wx b11 X x y z
  own : Own wx B X x y z
  ini : Own wx 0 s xi yi zi
  lti : Lt3 xi yi zi B
  lo2 : wq.heap.size ≤ B
theorem Mu.kept {wq w w' : World} {b10 b11 B : Nat} {s X : S} {xi yi zi x y z : Value} (h : Mu wq b10 b11 B s xi yi zi X x y z w) (hb : Below w.heap.size w w') : Mu wq b10 b11 B s xi yi zi X x y z w' :=
  ⟨h.bel.trans (hb.mono h.bel.size), Nat.le_trans h.up hb.size, h.x10.kept hb, h.x11.kept hb, h.own.kept hb, h.ini.kept hb, h.lti, h.lo2⟩
theorem Mu.start {wq w3 w4 w5 w6 : World} {base : Nat} {s X : S} {xi yi zi x y z : Value} (h : Below wq.heap.size wq w3) (ho3 : Own w3 base s xi yi zi) (h4 : Sto (w3.alloc (.cells zarr 36)) w3.heap.size (sarr s xi yi zi) w4) (hb : Below w4.heap.size w4 w5) (ho : Own w5 w4.heap.size X x y z) (hs : Sto (w5.alloc (.cells zarr 36)) w5.heap.size (sarr X x y z) w6) :
    Mu wq w3.heap.size w5.heap.size w4.heap.size s xi yi zi X x y z w6 := by
  obtain ⟨k1, k2⟩ := bx_sto (e := ⟨s, xi, yi, zi⟩) ho3.in_ h4
  obtain ⟨h1, h2⟩ := bx_sto (e := ⟨X, x, y, z⟩) ho.in_ hs
  have hf : Below w4.heap.size w4 w6 := hb.trans (h2.mono hb.size)
  have ho4 := ho3.kept k2
  exact ⟨(h.trans (k2.mono h.size)).trans (hf.mono (by have := h.size; have := k2.size; omega)), hf.size, k1.box.kept hf, h1.box, ho.kept h2, (ho4.low (Nat.zero_le _)).kept hf, ho4.lt3, by have := h.size; have := k2.size; omega⟩
theorem Mu.more {wq w w' : World} {b10 b11 B : Nat} {s X : S} {xi yi zi x y z : Value} (h : Mu wq b10 b11 B s xi yi zi X x y z w) (hs : Sto (w.alloc (.cells zarr 36)) w.heap.size zarr w') : Mv wq b10 b11 w.heap.size B s xi yi zi X x y z noS nilS nilS nilS w' := by
  obtain ⟨h1, h2⟩ := bx_sto (e := ⟨noS, nilS, nilS, nilS⟩) (own_nil w 0).in_ hs
  have k := h.kept h2
  have l10 := Blk.lt h.x10
  have l11 := Blk.lt h.x11
  exact ⟨k.bel, k.up, k.x10, k.x11, h1.box, k.own, k.ini, (own_nil _ 0).in_, k.lti, by omega, by omega, h.bel.size, h.lo2⟩
end Scr
end
section
open Go.RowKit
namespace Scr
open Go.Proofs.YtceaoadlhdgnmaaGreatDoor.Row
def Kv (w : World) (b : Nat) (l : List Int) : Prop := ∀ i, i < l.length → w.cell? ⟨b, i, none⟩ = some (.int .i64 (l.getD i 0))
theorem Kv.kept {w w' : World} {b : Nat} {l : List Int} (h : Kv w b l) (hb : Below w.heap.size w w') : Kv w' b l := fun i hi => cell_kept hb (h i hi)
theorem ans_no {w w' : World} {X0 : S} {may : Bool} (h : may = false) (hb : Below w.heap.size w w') : Ans w w' may X0 noS nilS nilS nilS 1 := by
  subst h
  exact ⟨hb, own_nil _ _, rfl, (by simp), fun _ => ⟨rfl, rfl, rfl, rfl⟩⟩
theorem Sto.drew {w w' : World} {b : Nat} {A : Array Value} (h : Sto w b A w') : Sto w b A w'.drew := ⟨h.box, h.other, h.size, fun B u hB hb => (h.below B u hB hb).drew⟩
end Scr
end
end Go.Proofs.YtceaoadlhdgnmaaGreatDoor
