/- Joined texts: CurRef, ScrLt. -/
import Derived.Test.YtgjpojaegjdjcabDoorJ1
import Derived.Test.YtgjpojaegjdjcabDoorJ2
import Derived.Test.YtgjpojaegjdjcabDoorJ3
import Derived.Test.YtgjpojaegjdjcabDoorJ4
import Derived.Test.YtgjpojaegjdjcabDoorJ5
import Derived.Test.YtgjpojaegjdjcabDoorJ6
import Derived.Test.YtgjpojaegjdjcabDoorJ7
import Derived.Test.YtgjpojaegjdjcabDoorJ8
import Derived.Test.YtgjpojaegjdjcabDoorJ9
import Derived.Test.YtgjpojaegjdjcabDoorJ10
import Derived.Test.YtgjpojaegjdjcabDoorJ11
import Derived.Test.YtgjpojaegjdjcabDoorJ12
import Derived.Test.YtgjpojaegjdjcabDoorJ13
import Derived.Test.YtgjpojaegjdjcabDoorJ14
import Derived.Test.YtgjpojaegjdjcabDoorJ15
import Derived.Test.YtgjpojaegjdjcabDoorJ17
import Derived.Test.YtgjpojaegjdjcabDoorJ18
import Derived.Test.YtgjpojaegjdjcabDoorJ19
import Derived.Test.YtgjpojaegjdjcabDoorJ20
import Derived.Test.YtgjpojaegjdjcabDoorJ21
import Derived.Test.YtgjpojaegjdjcabDoorJ22
import Derived.Test.YtgjpojaegjdjcabDoorJ23
import Derived.Test.YtgjpojaegjdjcabDoorJ24
import Derived.Test.YtgjpojaegjdjcabDoorJ25
import Derived.Test.YtgjpojaegjdjcabDoorJ26
import Derived.Test.YtgjpojaegjdjcabDoorJ29
import Derived.Test.YtgjpojaegjdjcabDoorJ30
import Derived.Test.YtgjpojaegjdjcabDoorJ31
import Derived.Test.YtgjpojaegjdjcabDoorJ43
import Derived.Test.YtgjpojaegjdjcabDoorJ61
import Derived.Test.YtgjpojaegjdjcabDoorJ62
import Derived.Test.YtgjpojaegjdjcabDoorJ63
import Derived.Test.YtgjpojaegjdjcabDoorJ65
import Derived.Test.YtgjpojaegjdjcabDoorJ66
import Derived.Test.YtgjpojaegjdjcabDoorJ67
import Derived.Test.YtgjpojaegjdjcabDoorJ68
import Derived.Test.YtgjpojaegjdjcabDoorJ69
import Derived.Test.YtgjpojaegjdjcabDoorJ70
import Derived.Test.YtgjpojaegjdjcabDoorJ71
section
/- Where a cursor goes: the page's Move, by every key. -/
namespace Go.Proofs.YtgjpojaegjdjcabDoor
set_option maxRecDepth 100000
open Go.RowKit
namespace Scr
open Go.Proofs.YtgjpojaegjdjcabDoor.Row

theorem refMove_any (s : S) (x y z : Value) (key n m : Int) (w : World) (h : In w s x y z) (hok : Ok s) (hk : keyB key = true) (hn : numB n = true) (hm : numB m = true) :
    Calls Tryd.prog 24 #[sv s x y z, .int .i64 key, .int .i64 n, .int .i64 m] w fun e w' => ∃ x' y' z', e = .returned (sv (moveS s key n m) x' y' z') ∧ Own w' w.heap.size (moveS s key n m) x' y' z' ∧ Below w.heap.size w w' := by
  unfold keyB at hk
  simp only [Bool.or_eq_true, beq_iff_eq] at hk
  rcases hk with rfl | rfl | rfl | rfl | rfl | rfl | rfl | rfl | rfl | rfl | rfl
  · by_cases hc : s.top ≤ s.cur.row
    · exact refMove_Ain s x y z n m w h hok hn hm hc
    · exact refMove_Aout s x y z n m w h hok hn hm hc
  · by_cases hc : s.cur.row ≤ s.bottom
    · exact refMove_Bin s x y z n m w h hok hn hm hc
    · exact refMove_Bout s x y z n m w h hok hn hm hc
  · exact refMove_C s x y z n m w h hok hn hm
  · exact refMove_D s x y z n m w h hok hn hm
  · by_cases hc : s.cur.row ≤ s.bottom
    · exact refMove_Ein s x y z n m w h hok hn hm hc
    · exact refMove_Eout s x y z n m w h hok hn hm hc
  · by_cases hc : s.top ≤ s.cur.row
    · exact refMove_Fin s x y z n m w h hok hn hm hc
    · exact refMove_Fout s x y z n m w h hok hn hm hc
  · exact refMove_G s x y z n m w h hok hn hm
  · cases hc : s.cur.origin
    · exact refMove_dout s x y z n m w h hok hn hm hc
    · exact refMove_din s x y z n m w h hok hn hm hc
  · cases hc : s.cur.origin
    · exact refMove_Hout s x y z n m w h hok hn hm hc
    · exact refMove_Hin s x y z n m w h hok hn hm hc
  · exact refMove_I s x y z n m w h hok hn hm
  · exact refMove_Z s x y z n m w h hok hn hm
end Scr
end Go.Proofs.YtgjpojaegjdjcabDoor
end
section
/- A round of a law that asks for an answer: what was handed in, the answer, the page's: in boxes, in memory of their own. -/
namespace Go.Proofs.YtgjpojaegjdjcabDoor
set_option maxRecDepth 100000
open Go.RowKit
namespace Scr
open Go.Proofs.YtgjpojaegjdjcabDoor.Row

/-- Where a screen's own memory ends. -/
structure Lt3 (x y z : Value) (B : Nat) : Prop where
  x : ∀ k, x.ownBlock = some k → k < B
  y : ∀ k, y.ownBlock = some k → k < B
  z : ∀ k, z.ownBlock = some k → k < B
theorem Own.lt3 {w : World} {base : Nat} {s : S} {x y z : Value} (h : Own w base s x y z) : Lt3 x y z w.heap.size :=
  ⟨fun k e => (h.m.lt k e).2, fun k e => (h.o.lt k e).2, fun k e => (World.ownsRow.lt h.t k e).2⟩
theorem Own.keptB {w w' : World} {base B : Nat} {s : S} {x y z : Value} (h : Own w base s x y z) (hl : Lt3 x y z B) (hb : Below B w w') : Own w' base s x y z := by
  have k1 : ∀ {v : Value} {l : List Cl}, OwnCs w base v l → (∀ k, v.ownBlock = some k → k < B) → OwnCs w' base v l := fun {v l} hv hlt => by
    refine ⟨hv.1, ?_⟩
    rcases hv.2 with h0 | ⟨g, cap, cur, rfl, hg, hc, rest⟩
    · exact .inl h0
    · exact .inr ⟨g, cap, cur, rfl, hg, (hb.block g (hlt g rfl)).trans hc, rest⟩
  refine ⟨k1 h.m hl.x, k1 h.o hl.y, h.t.1, ?_⟩
  rcases h.t.2 with h0 | ⟨g, cap, cur, hv, hg, hc, rest⟩
  · exact .inl h0
  · exact .inr ⟨g, cap, cur, hv, hg, (hb.block g (hl.z g (by rw [hv]; rfl))).trans hc, rest⟩
/-- A round under way: b10 holds what was handed in, b11 the answer, b14 the page's. -/
structure Mv (wq : World) (b10 b11 b14 B : Nat) (s : S) (xi yi zi : Value) (X : S) (x y z : Value) (Wn : S) (x' y' z' : Value) (wx : World) : Prop where
  bel : Below wq.heap.size wq wx
  up : B ≤ wx.heap.size
  x10 : SBox wx b10 s xi yi zi
  x11 : SBox wx b11 X x y z
  x14 : SBox wx b14 Wn x' y' z'
  own : Own wx B X x y z
  ini : Own wx 0 s xi yi zi
  want : In wx Wn x' y' z'
  lti : Lt3 xi yi zi B
  n1 : b10 ≠ b14
  n2 : b11 ≠ b14
  lo : wq.heap.size ≤ b14
  lo2 : wq.heap.size ≤ B
theorem Mv.kept {wq w w' : World} {b10 b11 b14 B : Nat} {s X Wn : S} {xi yi zi x y z x' y' z' : Value} (h : Mv wq b10 b11 b14 B s xi yi zi X x y z Wn x' y' z' w) (hb : Below w.heap.size w w') : Mv wq b10 b11 b14 B s xi yi zi X x y z Wn x' y' z' w' :=
  ⟨h.bel.trans (hb.mono h.bel.size), Nat.le_trans h.up hb.size, h.x10.kept hb, h.x11.kept hb, h.x14.kept hb, h.own.kept hb, h.ini.kept hb, h.want.kept hb, h.lti, h.n1, h.n2, h.lo, h.lo2⟩
theorem Mv.put {wq wy wz : World} {b10 b11 b14 B base : Nat} {s X Wn N : S} {xi yi zi x y z x' y' z' a b c : Value} (h : Mv wq b10 b11 b14 B s xi yi zi X x y z Wn x' y' z' wy) (ho : Own wy base N a b c) (hs : Sto wy b14 (sarr N a b c) wz) :
    Mv wq b10 b11 b14 B s xi yi zi X x y z N a b c wz :=
  ⟨hs.below _ _ h.lo h.bel, by rw [hs.size]; exact h.up, hs.boxed h.n1 h.x10, hs.boxed h.n2 h.x11, hs.box, hs.own2 h.x14 h.own, hs.own2 h.x14 h.ini, (hs.own2 h.x14 ho).in_, h.lti, h.n1, h.n2, h.lo, h.lo2⟩
/-- Its first part: no page's yet. -/
structure Mu (wq : World) (b10 b11 B : Nat) (s : S) (xi yi zi : Value) (X : S) (x y z : Value) (wx : World) : Prop where
  bel : Below wq.heap.size wq wx
  up : B ≤ wx.heap.size
  x10 : SBox wx b10 s xi yi zi
  x11 : SBox wx b11 X x y z
  own : Own wx B X x y z
  ini : Own wx 0 s xi yi zi
  lti : Lt3 xi yi zi B
  lo2 : wq.heap.size ≤ B
theorem Mu.kept {wq w w' : World} {b10 b11 B : Nat} {s X : S} {xi yi zi x y z : Value} (h : Mu wq b10 b11 B s xi yi zi X x y z w) (hb : Below w.heap.size w w') : Mu wq b10 b11 B s xi yi zi X x y z w' :=
  ⟨h.bel.trans (hb.mono h.bel.size), Nat.le_trans h.up hb.size, h.x10.kept hb, h.x11.kept hb, h.own.kept hb, h.ini.kept hb, h.lti, h.lo2⟩
theorem Mu.start {wq w3 w4 w5 w6 : World} {base : Nat} {s X : S} {xi yi zi x y z : Value} (h : Below wq.heap.size wq w3) (ho3 : Own w3 base s xi yi zi) (h4 : Sto (w3.alloc (.cells zarr 37)) w3.heap.size (sarr s xi yi zi) w4) (hb : Below w4.heap.size w4 w5) (ho : Own w5 w4.heap.size X x y z) (hs : Sto (w5.alloc (.cells zarr 37)) w5.heap.size (sarr X x y z) w6) :
    Mu wq w3.heap.size w5.heap.size w4.heap.size s xi yi zi X x y z w6 := by
  obtain ⟨k1, k2⟩ := bx_sto (e := ⟨s, xi, yi, zi⟩) ho3.in_ h4
  obtain ⟨h1, h2⟩ := bx_sto (e := ⟨X, x, y, z⟩) ho.in_ hs
  have hf : Below w4.heap.size w4 w6 := hb.trans (h2.mono hb.size)
  have ho4 := ho3.kept k2
  exact ⟨(h.trans (k2.mono h.size)).trans (hf.mono (by have := h.size; have := k2.size; omega)), hf.size, k1.box.kept hf, h1.box, ho.kept h2, (ho4.low (Nat.zero_le _)).kept hf, ho4.lt3, by have := h.size; have := k2.size; omega⟩
/-- The page's box, made and stored empty. -/
theorem Mu.more {wq w w' : World} {b10 b11 B : Nat} {s X : S} {xi yi zi x y z : Value} (h : Mu wq b10 b11 B s xi yi zi X x y z w) (hs : Sto (w.alloc (.cells zarr 37)) w.heap.size zarr w') : Mv wq b10 b11 w.heap.size B s xi yi zi X x y z noS nilS nilS nilS w' := by
  obtain ⟨h1, h2⟩ := bx_sto (e := ⟨noS, nilS, nilS, nilS⟩) (own_nil w 0).in_ hs
  have k := h.kept h2
  have l10 := Blk.lt h.x10
  have l11 := Blk.lt h.x11
  exact ⟨k.bel, k.up, k.x10, k.x11, h1.box, k.own, k.ini, (own_nil _ 0).in_, k.lti, by omega, by omega, h.bel.size, h.lo2⟩
end Scr
end Go.Proofs.YtgjpojaegjdjcabDoor
end
