/- Joined texts: CurPut. -/
import Derived.Test.YtgjpojaegjdjcabDoorJ1
import Derived.Test.YtgjpojaegjdjcabDoorJ2
import Derived.Test.YtgjpojaegjdjcabDoorJ3
import Derived.Test.YtgjpojaegjdjcabDoorJ4
import Derived.Test.YtgjpojaegjdjcabDoorJ5
import Derived.Test.YtgjpojaegjdjcabDoorJ6
import Derived.Test.YtgjpojaegjdjcabDoorJ7
import Derived.Test.YtgjpojaegjdjcabDoorJ8
import Derived.Test.YtgjpojaegjdjcabDoorJ9
import Derived.Test.YtgjpojaegjdjcabDoorJ10
import Derived.Test.YtgjpojaegjdjcabDoorJ11
import Derived.Test.YtgjpojaegjdjcabDoorJ12
import Derived.Test.YtgjpojaegjdjcabDoorJ13
import Derived.Test.YtgjpojaegjdjcabDoorJ14
import Derived.Test.YtgjpojaegjdjcabDoorJ15
import Derived.Test.YtgjpojaegjdjcabDoorJ17
import Derived.Test.YtgjpojaegjdjcabDoorJ18
import Derived.Test.YtgjpojaegjdjcabDoorJ19
import Derived.Test.YtgjpojaegjdjcabDoorJ20
import Derived.Test.YtgjpojaegjdjcabDoorJ43
import Derived.Test.YtgjpojaegjdjcabDoorJ61
section
/- A cursor stored whole, at each of its three places in a screen. -/
namespace Go.Proofs.YtgjpojaegjdjcabDoor
set_option maxRecDepth 100000
open Go.RowKit
namespace Scr
open Go.Proofs.YtgjpojaegjdjcabDoor.Row

/-- Only a screen's box is written: own memory elsewhere stays. -/
theorem own_onlyS {w w' : World} {b base : Nat} {A : Array Value} {s : S} {x y z : Value} (ho : Own w base s x y z) (hb : w.heap[b]? = some (.cells A 37 (0, 0))) (h : Only b w w') : Own w' base s x y z := by
  refine ⟨ho.m.only h (scr_ne ho.m hb), ho.o.only h (scr_ne ho.o hb), ho.t.1, ?_⟩
  have hn := scr_neB ho.t hb
  rcases ho.t.2 with h0 | ⟨g, cap, cur, rfl, hg, hc, rest⟩
  · exact .inl h0
  · exact .inr ⟨g, cap, cur, rfl, hg, h.2 g _ (fun e => hn (by subst e; rfl)) hc, rest⟩
/-- The seen one, the one kept, the other one kept. -/
def cput (w : World) (b : Nat) (k : Cur) : World := (((((((((w.setCell ⟨b, 7, none⟩ (.int .i64 k.row)).setCell ⟨b, 8, none⟩ (.int .i64 k.col)).setCell ⟨b, 9, none⟩ (.bool k.wrap)).setCell ⟨b, 10, none⟩ (.int .i64 k.a.fg)).setCell ⟨b, 11, none⟩ (.int .i64 k.a.bg)).setCell ⟨b, 12, none⟩ (.int .i64 k.a.flags)).setCell ⟨b, 13, none⟩ (.int .i64 k.g0)).setCell ⟨b, 14, none⟩ (.int .i64 k.g1)).setCell ⟨b, 15, none⟩ (.int .i64 k.shift)).setCell ⟨b, 16, none⟩ (.bool k.origin)
theorem SBox.cput {w : World} {b : Nat} {s : S} {x y z : Value} (h : SBox w b s x y z) (k : Cur) : SBox (cput w b k) b { s with cur := k } x y z := by
  have h1 : SBox _ b { s with cur := { s.cur with row := k.row } } x y z := Blk.set h 7 _
  have h2 : SBox _ b { s with cur := { s.cur with row := k.row, col := k.col } } x y z := Blk.set h1 8 _
  have h3 : SBox _ b { s with cur := { s.cur with row := k.row, col := k.col, wrap := k.wrap } } x y z := Blk.set h2 9 _
  have h4 : SBox _ b { s with cur := { s.cur with row := k.row, col := k.col, wrap := k.wrap, a := { s.cur.a with fg := k.a.fg } } } x y z := Blk.set h3 10 _
  have h5 : SBox _ b { s with cur := { s.cur with row := k.row, col := k.col, wrap := k.wrap, a := { s.cur.a with fg := k.a.fg, bg := k.a.bg } } } x y z := Blk.set h4 11 _
  have h6 : SBox _ b { s with cur := { s.cur with row := k.row, col := k.col, wrap := k.wrap, a := { s.cur.a with fg := k.a.fg, bg := k.a.bg, flags := k.a.flags } } } x y z := Blk.set h5 12 _
  have h7 : SBox _ b { s with cur := { s.cur with row := k.row, col := k.col, wrap := k.wrap, g0 := k.g0, a := { s.cur.a with fg := k.a.fg, bg := k.a.bg, flags := k.a.flags } } } x y z := Blk.set h6 13 _
  have h8 : SBox _ b { s with cur := { s.cur with row := k.row, col := k.col, wrap := k.wrap, g0 := k.g0, g1 := k.g1, a := { s.cur.a with fg := k.a.fg, bg := k.a.bg, flags := k.a.flags } } } x y z := Blk.set h7 14 _
  have h9 : SBox _ b { s with cur := { s.cur with row := k.row, col := k.col, wrap := k.wrap, g0 := k.g0, g1 := k.g1, shift := k.shift, a := { s.cur.a with fg := k.a.fg, bg := k.a.bg, flags := k.a.flags } } } x y z := Blk.set h8 15 _
  have h10 : SBox _ b { s with cur := { s.cur with row := k.row, col := k.col, wrap := k.wrap, g0 := k.g0, g1 := k.g1, shift := k.shift, origin := k.origin, a := { s.cur.a with fg := k.a.fg, bg := k.a.bg, flags := k.a.flags } } } x y z := Blk.set h9 16 _
  exact h10
theorem cput_only (w : World) (b : Nat) (k : Cur) : Only b w (cput w b k) :=
  ((((((((((Only.refl b w).set 7 _).set 8 _).set 9 _).set 10 _).set 11 _).set 12 _).set 13 _).set 14 _).set 15 _).set 16 _
theorem cput_below {w w0 : World} {b B : Nat} (h : Below B w0 w) (hB : B ≤ b) (k : Cur) : Below B w0 (cput w b k) :=
  (((((((((h.setCell hB _).setCell hB _).setCell hB _).setCell hB _).setCell hB _).setCell hB _).setCell hB _).setCell hB _).setCell hB _).setCell hB _
theorem Pn.cput {w : World} {b base : Nat} {s : S} {x y z : Value} (h : Pn w b base s x y z) (k : Cur) : Pn (Scr.cput w b k) b base { s with cur := k } x y z :=
  ⟨SBox.cput h.box k, (own_onlyS h.own h.box (cput_only w b k)).as _ rfl rfl rfl, h.lt, Nat.le_trans h.up (cput_only w b k).1⟩
def cputA (w : World) (b : Nat) (k : Cur) : World := (((((((((w.setCell ⟨b, 17, none⟩ (.int .i64 k.row)).setCell ⟨b, 18, none⟩ (.int .i64 k.col)).setCell ⟨b, 19, none⟩ (.bool k.wrap)).setCell ⟨b, 20, none⟩ (.int .i64 k.a.fg)).setCell ⟨b, 21, none⟩ (.int .i64 k.a.bg)).setCell ⟨b, 22, none⟩ (.int .i64 k.a.flags)).setCell ⟨b, 23, none⟩ (.int .i64 k.g0)).setCell ⟨b, 24, none⟩ (.int .i64 k.g1)).setCell ⟨b, 25, none⟩ (.int .i64 k.shift)).setCell ⟨b, 26, none⟩ (.bool k.origin)
theorem SBox.cputA {w : World} {b : Nat} {s : S} {x y z : Value} (h : SBox w b s x y z) (k : Cur) : SBox (cputA w b k) b { s with saved := k } x y z := by
  have h1 : SBox _ b { s with saved := { s.saved with row := k.row } } x y z := Blk.set h 17 _
  have h2 : SBox _ b { s with saved := { s.saved with row := k.row, col := k.col } } x y z := Blk.set h1 18 _
  have h3 : SBox _ b { s with saved := { s.saved with row := k.row, col := k.col, wrap := k.wrap } } x y z := Blk.set h2 19 _
  have h4 : SBox _ b { s with saved := { s.saved with row := k.row, col := k.col, wrap := k.wrap, a := { s.saved.a with fg := k.a.fg } } } x y z := Blk.set h3 20 _
  have h5 : SBox _ b { s with saved := { s.saved with row := k.row, col := k.col, wrap := k.wrap, a := { s.saved.a with fg := k.a.fg, bg := k.a.bg } } } x y z := Blk.set h4 21 _
  have h6 : SBox _ b { s with saved := { s.saved with row := k.row, col := k.col, wrap := k.wrap, a := { s.saved.a with fg := k.a.fg, bg := k.a.bg, flags := k.a.flags } } } x y z := Blk.set h5 22 _
  have h7 : SBox _ b { s with saved := { s.saved with row := k.row, col := k.col, wrap := k.wrap, g0 := k.g0, a := { s.saved.a with fg := k.a.fg, bg := k.a.bg, flags := k.a.flags } } } x y z := Blk.set h6 23 _
  have h8 : SBox _ b { s with saved := { s.saved with row := k.row, col := k.col, wrap := k.wrap, g0 := k.g0, g1 := k.g1, a := { s.saved.a with fg := k.a.fg, bg := k.a.bg, flags := k.a.flags } } } x y z := Blk.set h7 24 _
  have h9 : SBox _ b { s with saved := { s.saved with row := k.row, col := k.col, wrap := k.wrap, g0 := k.g0, g1 := k.g1, shift := k.shift, a := { s.saved.a with fg := k.a.fg, bg := k.a.bg, flags := k.a.flags } } } x y z := Blk.set h8 25 _
  have h10 : SBox _ b { s with saved := { s.saved with row := k.row, col := k.col, wrap := k.wrap, g0 := k.g0, g1 := k.g1, shift := k.shift, origin := k.origin, a := { s.saved.a with fg := k.a.fg, bg := k.a.bg, flags := k.a.flags } } } x y z := Blk.set h9 26 _
  exact h10
theorem cputA_only (w : World) (b : Nat) (k : Cur) : Only b w (cputA w b k) :=
  ((((((((((Only.refl b w).set 17 _).set 18 _).set 19 _).set 20 _).set 21 _).set 22 _).set 23 _).set 24 _).set 25 _).set 26 _
theorem cputA_below {w w0 : World} {b B : Nat} (h : Below B w0 w) (hB : B ≤ b) (k : Cur) : Below B w0 (cputA w b k) :=
  (((((((((h.setCell hB _).setCell hB _).setCell hB _).setCell hB _).setCell hB _).setCell hB _).setCell hB _).setCell hB _).setCell hB _).setCell hB _
theorem Pn.cputA {w : World} {b base : Nat} {s : S} {x y z : Value} (h : Pn w b base s x y z) (k : Cur) : Pn (Scr.cputA w b k) b base { s with saved := k } x y z :=
  ⟨SBox.cputA h.box k, (own_onlyS h.own h.box (cputA_only w b k)).as _ rfl rfl rfl, h.lt, Nat.le_trans h.up (cputA_only w b k).1⟩
def cputB (w : World) (b : Nat) (k : Cur) : World := (((((((((w.setCell ⟨b, 27, none⟩ (.int .i64 k.row)).setCell ⟨b, 28, none⟩ (.int .i64 k.col)).setCell ⟨b, 29, none⟩ (.bool k.wrap)).setCell ⟨b, 30, none⟩ (.int .i64 k.a.fg)).setCell ⟨b, 31, none⟩ (.int .i64 k.a.bg)).setCell ⟨b, 32, none⟩ (.int .i64 k.a.flags)).setCell ⟨b, 33, none⟩ (.int .i64 k.g0)).setCell ⟨b, 34, none⟩ (.int .i64 k.g1)).setCell ⟨b, 35, none⟩ (.int .i64 k.shift)).setCell ⟨b, 36, none⟩ (.bool k.origin)
theorem SBox.cputB {w : World} {b : Nat} {s : S} {x y z : Value} (h : SBox w b s x y z) (k : Cur) : SBox (cputB w b k) b { s with too := k } x y z := by
  have h1 : SBox _ b { s with too := { s.too with row := k.row } } x y z := Blk.set h 27 _
  have h2 : SBox _ b { s with too := { s.too with row := k.row, col := k.col } } x y z := Blk.set h1 28 _
  have h3 : SBox _ b { s with too := { s.too with row := k.row, col := k.col, wrap := k.wrap } } x y z := Blk.set h2 29 _
  have h4 : SBox _ b { s with too := { s.too with row := k.row, col := k.col, wrap := k.wrap, a := { s.too.a with fg := k.a.fg } } } x y z := Blk.set h3 30 _
  have h5 : SBox _ b { s with too := { s.too with row := k.row, col := k.col, wrap := k.wrap, a := { s.too.a with fg := k.a.fg, bg := k.a.bg } } } x y z := Blk.set h4 31 _
  have h6 : SBox _ b { s with too := { s.too with row := k.row, col := k.col, wrap := k.wrap, a := { s.too.a with fg := k.a.fg, bg := k.a.bg, flags := k.a.flags } } } x y z := Blk.set h5 32 _
  have h7 : SBox _ b { s with too := { s.too with row := k.row, col := k.col, wrap := k.wrap, g0 := k.g0, a := { s.too.a with fg := k.a.fg, bg := k.a.bg, flags := k.a.flags } } } x y z := Blk.set h6 33 _
  have h8 : SBox _ b { s with too := { s.too with row := k.row, col := k.col, wrap := k.wrap, g0 := k.g0, g1 := k.g1, a := { s.too.a with fg := k.a.fg, bg := k.a.bg, flags := k.a.flags } } } x y z := Blk.set h7 34 _
  have h9 : SBox _ b { s with too := { s.too with row := k.row, col := k.col, wrap := k.wrap, g0 := k.g0, g1 := k.g1, shift := k.shift, a := { s.too.a with fg := k.a.fg, bg := k.a.bg, flags := k.a.flags } } } x y z := Blk.set h8 35 _
  have h10 : SBox _ b { s with too := { s.too with row := k.row, col := k.col, wrap := k.wrap, g0 := k.g0, g1 := k.g1, shift := k.shift, origin := k.origin, a := { s.too.a with fg := k.a.fg, bg := k.a.bg, flags := k.a.flags } } } x y z := Blk.set h9 36 _
  exact h10
theorem cputB_only (w : World) (b : Nat) (k : Cur) : Only b w (cputB w b k) :=
  ((((((((((Only.refl b w).set 27 _).set 28 _).set 29 _).set 30 _).set 31 _).set 32 _).set 33 _).set 34 _).set 35 _).set 36 _
theorem cputB_below {w w0 : World} {b B : Nat} (h : Below B w0 w) (hB : B ≤ b) (k : Cur) : Below B w0 (cputB w b k) :=
  (((((((((h.setCell hB _).setCell hB _).setCell hB _).setCell hB _).setCell hB _).setCell hB _).setCell hB _).setCell hB _).setCell hB _).setCell hB _
theorem Pn.cputB {w : World} {b base : Nat} {s : S} {x y z : Value} (h : Pn w b base s x y z) (k : Cur) : Pn (Scr.cputB w b k) b base { s with too := k } x y z :=
  ⟨SBox.cputB h.box k, (own_onlyS h.own h.box (cputB_only w b k)).as _ rfl rfl rfl, h.lt, Nat.le_trans h.up (cputB_only w b k).1⟩
end Scr
end Go.Proofs.YtgjpojaegjdjcabDoor
end
