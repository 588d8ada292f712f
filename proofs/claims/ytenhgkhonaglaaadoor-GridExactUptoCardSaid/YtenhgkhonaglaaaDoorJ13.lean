/- Joined texts: GrdStep0, GrdStepEq. -/
import Derived.Test.YtenhgkhonaglaaaDoorJ1
import Derived.Test.YtenhgkhonaglaaaDoorJ2
import Derived.Test.YtenhgkhonaglaaaDoorJ3
import Derived.Test.YtenhgkhonaglaaaDoorJ4
import Derived.Test.YtenhgkhonaglaaaDoorJ5
import Derived.Test.YtenhgkhonaglaaaDoorJ6
import Derived.Test.YtenhgkhonaglaaaDoorJ7
import Derived.Test.YtenhgkhonaglaaaDoorJ8
import Derived.Test.YtenhgkhonaglaaaDoorJ9
import Derived.Test.YtenhgkhonaglaaaDoorJ10
import Derived.Test.YtenhgkhonaglaaaDoorJ11
import Derived.Deep.DeepCutAuto
section
/- What an act's walk holds: the grid, the act, the copy, the answer, what the page says. -/
namespace Go.Proofs.YtenhgkhonaglaaaDoor
set_option maxRecDepth 100000
open Go.RowKit
namespace Row

/-- The act's box. -/
abbrev tbox (d i k n : Int) (q : Look) (v : Value) : Obj := .cells #[.int .i64 d, .int .i64 i, .int .i64 k, .int .i64 n, .int .i64 q.fg, .int .i64 q.bg, .int .i64 q.flags, v] 33 (0, 0)
theorem gput_far {w : World} {base g : Nat} {v : Value} {m : List Cl} (h : OwnCs w base v m) {r0 c0 : Int} {u0 : Value} (hb : w.heap[g]? = some (gbox r0 c0 u0)) (r c : Int) (u : Value) : OwnCs (gput w g r c u) base v m := by
  have h1 := h.setBox hb (by decide) 0 (.int .i64 r)
  have b1 := Blk.set hb 0 (.int .i64 r)
  have h2 := h1.setBox b1 (by decide) 1 (.int .i64 c)
  have b2 := Blk.set b1 1 (.int .i64 c)
  exact h2.setBox b2 (by decide) 2 u
structure St (w wr : World) (R C : Int) (x : Value) (d i k n : Int) (q : Look) (v : Value) (b : Nat) (vi : Value) (l : List Cl) : Prop where
  g : wr.heap[w.heap.size]? = some (gbox R C x)
  a : wr.heap[w.heap.size + 1]? = some (tbox d i k n q v)
  z : wr.heap[w.heap.size + 2]? = some (gbox 0 0 (.slice none 0 0))
  i : wr.heap[b]? = some (gbox R C vi)
  o : OwnCs wr (w.heap.size + 3) vi l
  lo : w.heap.size + 3 ≤ b
  bel : Below w.heap.size w wr
theorem St.kept {w wr w3 : World} {R C : Int} {x : Value} {d i k n : Int} {q : Look} {v : Value} {b : Nat} {vi : Value} {l : List Cl} (h : St w wr R C x d i k n q v b vi l) (hb : Below wr.heap.size wr w3) : St w w3 R C x d i k n q v b vi l :=
  ⟨Blk.kept h.g hb, Blk.kept h.a hb, Blk.kept h.z hb, Blk.kept h.i hb, h.o.kept hb, h.lo, h.bel.trans (hb.mono h.bel.size)⟩
theorem St.start (w : World) (R C : Int) (x : Value) (d i k n : Int) (q : Look) (v : Value) : Below w.heap.size w (((w.alloc (gbox R C x)).alloc (tbox d i k n q v)).alloc (gbox 0 0 (.slice none 0 0))) :=
  (((Below.refl _ _).alloc (Nat.le_refl _) _).alloc (by simp) _).alloc (by simp; omega) _
theorem St.made {w w1 : World} {R C : Int} {x : Value} {d i k n : Int} {q : Look} {v : Value} {vi : Value} {l : List Cl}
    (ho : OwnCs w1 (((w.alloc (gbox R C x)).alloc (tbox d i k n q v)).alloc (gbox 0 0 (.slice none 0 0))).heap.size vi l)
    (hb : Below (((w.alloc (gbox R C x)).alloc (tbox d i k n q v)).alloc (gbox 0 0 (.slice none 0 0))).heap.size (((w.alloc (gbox R C x)).alloc (tbox d i k n q v)).alloc (gbox 0 0 (.slice none 0 0))) w1) :
    St w (w1.alloc (gbox R C vi)) R C x d i k n q v w1.heap.size vi l := by
  have h0 : (((w.alloc (gbox R C x)).alloc (tbox d i k n q v)).alloc (gbox 0 0 (.slice none 0 0))).heap.size = w.heap.size + 3 := by simp
  have hk : Below w1.heap.size w1 (w1.alloc (gbox R C vi)) := (Below.refl _ _).alloc (Nat.le_refl _) _
  have hW := St.start w R C x d i k n q v
  have hs : w.heap.size + 3 ≤ w1.heap.size := by have := hb.size; omega
  exact ⟨Blk.kept (Blk.kept (old_alloc (old_alloc (new_alloc _ _ _ rfl) _) _) hb) hk, Blk.kept (Blk.kept (old_alloc (new_alloc _ _ _ (by simp)) _) hb) hk, Blk.kept (Blk.kept (new_alloc _ _ _ (by simp)) hb) hk, new_alloc _ _ _ rfl,
    (ho.low (by omega)).kept hk, hs, (hW.trans (hb.mono (by omega))).trans (hk.mono (by omega))⟩
theorem St.size {w wr : World} {R C : Int} {x : Value} {d i k n : Int} {q : Look} {v : Value} {b : Nat} {vi : Value} {l : List Cl} (h : St w wr R C x d i k n q v b vi l) : b < wr.heap.size := Blk.lt h.i
structure St2 (w wr : World) (R C : Int) (x : Value) (d i k n : Int) (q : Look) (v : Value) (b : Nat) (vi : Value) (l : List Cl) (p : Nat) (xr xc : Int) (vx : Value) (yr yc : Int) (vy : Value) : Prop where
  one : St w wr R C x d i k n q v b vi l
  x : wr.heap[p]? = some (gbox xr xc vx)
  y : wr.heap[p + 1]? = some (gbox yr yc vy)
  lt : b < p
theorem St2.kept {w wr w3 : World} {R C : Int} {x : Value} {d i k n : Int} {q : Look} {v : Value} {b : Nat} {vi : Value} {l : List Cl} {p : Nat} {xr xc : Int} {vx : Value} {yr yc : Int} {vy : Value} (h : St2 w wr R C x d i k n q v b vi l p xr xc vx yr yc vy) (hb : Below wr.heap.size wr w3) : St2 w w3 R C x d i k n q v b vi l p xr xc vx yr yc vy :=
  ⟨h.one.kept hb, Blk.kept h.x hb, Blk.kept h.y hb, h.lt⟩
theorem St2.made {w wr : World} {R C : Int} {x : Value} {d i k n : Int} {q : Look} {v : Value} {b : Nat} {vi : Value} {l : List Cl} (h : St w wr R C x d i k n q v b vi l) :
    St2 w ((wr.alloc (gbox 0 0 (.slice none 0 0))).alloc (gbox 0 0 (.slice none 0 0))) R C x d i k n q v b vi l wr.heap.size 0 0 (.slice none 0 0) 0 0 (.slice none 0 0) :=
  ⟨h.kept (((Below.refl _ _).alloc (Nat.le_refl _) _).alloc (by simp) _), old_alloc (new_alloc _ _ _ rfl) _, new_alloc _ _ _ (by simp), h.size⟩
theorem St2.size {w wr : World} {R C : Int} {x : Value} {d i k n : Int} {q : Look} {v : Value} {b : Nat} {vi : Value} {l : List Cl} {p : Nat} {xr xc : Int} {vx : Value} {yr yc : Int} {vy : Value} (h : St2 w wr R C x d i k n q v b vi l p xr xc vx yr yc vy) : p + 1 < wr.heap.size := Blk.lt h.y
theorem St.putFar {w wr : World} {R C : Int} {x : Value} {d i k n : Int} {q : Look} {v : Value} {b : Nat} {vi : Value} {l : List Cl} (h : St w wr R C x d i k n q v b vi l) {p : Nat} {r0 c0 : Int} {u0 : Value} (hx : wr.heap[p]? = some (gbox r0 c0 u0)) (hp : b < p) (r c : Int) (u : Value) :
    St w (gput wr p r c u) R C x d i k n q v b vi l := by
  have := h.lo
  exact ⟨gput_other h.g (by omega) _ _ _, gput_other h.a (by omega) _ _ _, gput_other h.z (by omega) _ _ _, gput_other h.i (by omega) _ _ _, gput_far h.o hx _ _ _, h.lo, gput_below h.bel (by omega) _ _ _⟩
theorem St2.putX {w wr : World} {R C : Int} {x : Value} {d i k n : Int} {q : Look} {v : Value} {b : Nat} {vi : Value} {l : List Cl} {p : Nat} {xr xc : Int} {vx : Value} {yr yc : Int} {vy : Value} (h : St2 w wr R C x d i k n q v b vi l p xr xc vx yr yc vy) (r c : Int) (u : Value) : St2 w (gput wr p r c u) R C x d i k n q v b vi l p r c u yr yc vy :=
  ⟨h.one.putFar h.x h.lt r c u, gput_box h.x _ _ _, gput_other h.y (by omega) _ _ _, h.lt⟩
theorem St2.putY {w wr : World} {R C : Int} {x : Value} {d i k n : Int} {q : Look} {v : Value} {b : Nat} {vi : Value} {l : List Cl} {p : Nat} {xr xc : Int} {vx : Value} {yr yc : Int} {vy : Value} (h : St2 w wr R C x d i k n q v b vi l p xr xc vx yr yc vy) (r c : Int) (u : Value) : St2 w (gput wr (p + 1) r c u) R C x d i k n q v b vi l p xr xc vx r c u :=
  ⟨h.one.putFar h.y (by have := h.lt; omega) r c u, gput_other h.x (by omega) _ _ _, gput_box h.y _ _ _, h.lt⟩
theorem St2.far {w wr w3 : World} {R C : Int} {x : Value} {d i k n : Int} {q : Look} {v : Value} {b : Nat} {vi : Value} {l : List Cl} {p : Nat} {xr xc : Int} {vx : Value} {yr yc : Int} {vy : Value} (h : St2 w wr R C x d i k n q v b vi l p xr xc vx yr yc vy) {base : Nat} (hb : Below base wr w3) (hp : p + 1 < base) (ho : OwnCs w3 (w.heap.size + 3) vi l) : St2 w w3 R C x d i k n q v b vi l p xr xc vx yr yc vy := by
  have h1 := h.one.lo
  have h2 := h.lt
  exact ⟨⟨(hb.block _ (by omega)).trans h.one.g, (hb.block _ (by omega)).trans h.one.a, (hb.block _ (by omega)).trans h.one.z, (hb.block _ (by omega)).trans h.one.i, ho, h.one.lo, h.one.bel.trans (hb.mono (by omega))⟩, (hb.block _ (by omega)).trans h.x, (hb.block _ hp).trans h.y, h.lt⟩
/-- What a developers' function tells: a grid and a number. -/
abbrev Tells (f : Nat) (args : Array Value) (w : World) (xr xc : Int) (m : List Cl) (code : Int) : Prop :=
  Calls Tryd.prog f args w fun e w' => ∃ v, e = .returned (.tuple #[.agg #[.int .i64 xr, .int .i64 xc, v], .int .i64 code]) ∧ OwnCs w' w.heap.size v m ∧ Below w.heap.size w w'
theorem tells_none {f : Nat} {args : Array Value} {w : World} {code : Int} (h : Calls Tryd.prog f args w fun e w' => e = .returned (.tuple #[.agg #[.int .i64 0, .int .i64 0, .slice none 0 0], .int .i64 code]) ∧ Below w.heap.size w w') : Tells f args w 0 0 [] code :=
  h.mono fun _ _ ⟨h1, h2⟩ => ⟨_, h1, OwnCs.nil _ _, h2⟩
/-- What a page's function says: a grid. -/
abbrev Says (f : Nat) (args : Array Value) (w : World) (xr xc : Int) (m : List Cl) : Prop :=
  Calls Tryd.prog f args w fun e w' => ∃ v, e = .returned (.agg #[.int .i64 xr, .int .i64 xc, v]) ∧ OwnCs w' w.heap.size v m ∧ Below w.heap.size w w'
/-- What an act's step tells. -/
def Stands (w : World) (xr xc : Int) (m : List Cl) (e : Ending) (w' : World) : Prop :=
  ∃ v, e = .returned (.tuple #[.agg #[.int .i64 xr, .int .i64 xc, v], .bool true]) ∧ Rm w' v m ∧ Below w.heap.size w w'
theorem apart {w w' : World} {base : Nat} {u v : Value} {l m : List Cl} (h : OwnCs w' w.heap.size u l) (k : OwnCs w base v m) : u.ownBlock ≠ v.ownBlock ∨ u = .slice none 0 0 := by
  rcases h.shape with ⟨rfl, _⟩ | ⟨g, c, rfl, hg, _⟩
  · exact .inr rfl
  · refine .inl fun e => ?_
    have := (k.lt g e.symm).2
    omega
theorem apart2 {w w' : World} {base : Nat} {u v : Value} {l m : List Cl} (h : OwnCs w' w.heap.size u l) (k : OwnCs w base v m) : v.ownBlock ≠ u.ownBlock ∨ v = .slice none 0 0 := by
  rcases k.shape with ⟨rfl, _⟩ | ⟨g, c, rfl, hg, _⟩
  · exact .inr rfl
  · refine .inl fun e => ?_
    have h1 := (k.lt g rfl).2
    have h2 := (h.lt g e.symm).1
    omega
end Row
end Go.Proofs.YtenhgkhonaglaaaDoor
end
section
/- Cells held against each other, new memory alone. -/
namespace Go.Proofs.YtenhgkhonaglaaaDoor
set_option maxRecDepth 100000
open Go.RowKit
namespace Row
theorem eqCells_below (l : List Cl) (x y : Value) (w : World) (hx : Cs w x l) (hy : Cs w y l) (hn : l.length ≤ 100000000) :
    Calls Tryd.prog 24 #[x, y] w fun e w' => e = .returned (.bool true) ∧ Below w.heap.size w w' :=
  (eqCells_same l x y w hx hy hn).mono fun e w' ⟨h1, q, h2⟩ => ⟨h1, by subst h2; exact below_drewN (Below.refl _ _) q⟩
end Row
end Go.Proofs.YtenhgkhonaglaaaDoor
end
