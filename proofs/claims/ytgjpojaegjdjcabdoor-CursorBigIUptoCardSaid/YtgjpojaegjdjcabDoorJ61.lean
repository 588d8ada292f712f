/- Joined texts: CurPlain, ScrPn. -/
import Derived.Test.YtgjpojaegjdjcabDoorJ1
import Derived.Test.YtgjpojaegjdjcabDoorJ2
import Derived.Test.YtgjpojaegjdjcabDoorJ3
import Derived.Test.YtgjpojaegjdjcabDoorJ4
import Derived.Test.YtgjpojaegjdjcabDoorJ5
import Derived.Test.YtgjpojaegjdjcabDoorJ6
import Derived.Test.YtgjpojaegjdjcabDoorJ7
import Derived.Test.YtgjpojaegjdjcabDoorJ8
import Derived.Test.YtgjpojaegjdjcabDoorJ9
import Derived.Test.YtgjpojaegjdjcabDoorJ10
import Derived.Test.YtgjpojaegjdjcabDoorJ11
import Derived.Test.YtgjpojaegjdjcabDoorJ12
import Derived.Test.YtgjpojaegjdjcabDoorJ13
import Derived.Test.YtgjpojaegjdjcabDoorJ14
import Derived.Test.YtgjpojaegjdjcabDoorJ15
import Derived.Test.YtgjpojaegjdjcabDoorJ17
import Derived.Test.YtgjpojaegjdjcabDoorJ18
import Derived.Test.YtgjpojaegjdjcabDoorJ19
import Derived.Test.YtgjpojaegjdjcabDoorJ20
import Derived.Test.YtgjpojaegjdjcabDoorJ43
section
/- Where a cursor goes, as a function on screens; what comes may be. No program stands in this text but by its library's names. -/
namespace Go.Proofs.YtgjpojaegjdjcabDoor
namespace Scr
open Go.Proofs.YtgjpojaegjdjcabDoor.Row

/-- Its cursor stands elsewhere. -/
def atPlace (s : S) (r c : Int) : S := { s with cur := { s.cur with row := r, col := c } }
def upRow (s : S) (n : Int) : Int := max (s.cur.row - n) (if s.top ≤ s.cur.row then s.top else 0)
def dnRow (s : S) (n : Int) : Int := min (s.cur.row + n) (if s.cur.row ≤ s.bottom then s.bottom else s.main.rows - 1)
def noRow (s : S) (n : Int) : Int := if s.cur.origin then min (s.top + n - 1) s.bottom else min (n - 1) (s.main.rows - 1)
def nxCol (s : S) (n : Int) : Int := (Tab.nextOf s.tabs s.cur.col.toNat n.toNat : Nat)
def bkCol (s : S) (n : Int) : Int := (Tab.backOf s.tabs s.cur.col.toNat n.toNat : Nat)
/-- Where a plain key leads, by n, at least 1: to a row (true) or a column. -/
def goal (s : S) (k n : Int) : Bool × Int :=
  if k = 65 then (true, upRow s n) else if k = 66 then (true, dnRow s n) else if k = 67 then (false, min (s.cur.col + n) (s.main.cols - 1)) else if k = 68 then (false, max (s.cur.col - n) 0)
  else if k = 71 then (false, min (n - 1) (s.main.cols - 1)) else if k = 100 then (true, noRow s n) else if k = 73 then (false, nxCol s n) else (false, bkCol s n)
def goTo (s : S) (k n : Int) : S := if (goal s k n).1 then atPlace s (goal s k n).2 s.cur.col else atPlace s s.cur.row (goal s k n).2
def plainKey (k : Int) : Prop := k = 65 ∨ k = 66 ∨ k = 67 ∨ k = 68 ∨ k = 71 ∨ k = 100 ∨ k = 73 ∨ k = 90
/-- The keys, and what each comes to. -/
def stL (key n m : Int) : List (Int × Int) :=
  if key = 69 then [(66, n), (71, 1)] else if key = 70 then [(65, n), (71, 1)] else if key = 72 then [(100, n), (71, m)]
  else if key = 65 ∨ key = 66 ∨ key = 67 ∨ key = 68 ∨ key = 71 ∨ key = 100 ∨ key = 73 ∨ key = 90 then [(key, n)] else []
def keyB (k : Int) : Bool := k == 65 || (k == 66 || (k == 67 || (k == 68 || (k == 69 || (k == 70 || (k == 71 || (k == 100 || (k == 72 || (k == 73 || k == 90)))))))))
def numB (n : Int) : Bool := decide (-1 ≤ n) && decide (n ≤ 9999)
theorem numB_iff {n : Int} : numB n = true ↔ -1 ≤ n ∧ n ≤ 9999 := by unfold numB; rw [Bool.and_eq_true, decide_eq_true_eq, decide_eq_true_eq]
def stepS (s : S) (p : Int × Int) : S := goTo s p.1 (max p.2 1)
def stepsS (s : S) (l : List (Int × Int)) : S := l.foldl stepS s
def moveS (s : S) (key n m : Int) : S := noWrap (stepsS s (stL key n m))
theorem stL_nil {key n m : Int} : stL key n m = [] ↔ keyB key = false := by
  unfold stL keyB
  simp only [Bool.or_eq_false_iff, beq_eq_false_iff_ne]
  constructor
  · intro h
    split at h
    · cases h
    split at h
    · cases h
    split at h
    · cases h
    split at h
    · cases h
    omega
  · intro h
    rw [if_neg (by omega), if_neg (by omega), if_neg (by omega), if_neg (by omega)]
theorem stL_plain {key n m : Int} (hn : numB n = true) (hm : numB m = true) : ∀ p, p ∈ stL key n m → plainKey p.1 ∧ -1 ≤ p.2 ∧ p.2 ≤ 9999 := by
  have hn := numB_iff.1 hn
  have hm := numB_iff.1 hm
  intro p hp
  unfold stL at hp
  unfold plainKey
  split at hp
  · simp only [List.mem_cons, List.not_mem_nil, or_false] at hp
    rcases hp with rfl | rfl
    · exact ⟨.inr (.inl rfl), hn⟩
    · exact ⟨.inr (.inr (.inr (.inr (.inl rfl)))), by decide, by decide⟩
  split at hp
  · simp only [List.mem_cons, List.not_mem_nil, or_false] at hp
    rcases hp with rfl | rfl
    · exact ⟨.inl rfl, hn⟩
    · exact ⟨.inr (.inr (.inr (.inr (.inl rfl)))), by decide, by decide⟩
  split at hp
  · simp only [List.mem_cons, List.not_mem_nil, or_false] at hp
    rcases hp with rfl | rfl
    · exact ⟨.inr (.inr (.inr (.inr (.inr (.inl rfl))))), hn⟩
    · exact ⟨.inr (.inr (.inr (.inr (.inl rfl)))), hm⟩
  split at hp
  · rename_i hk
    simp only [List.mem_cons, List.not_mem_nil, or_false] at hp
    subst hp
    exact ⟨hk, hn⟩
  · cases hp
theorem stL_len (key n m : Int) : (stL key n m).length ≤ 2 := by
  unfold stL
  repeat' split
  all_goals simp
/-- What a step wants of a screen: a cursor within, as many stops as columns. -/
structure Fc (s : S) : Prop where
  f : Facts s
  b : (s.tabs.length : Int) = s.main.cols
theorem Ok.fc {s : S} (h : Ok s) : Fc s := ⟨h.facts, h.b⟩
theorem Fc.at {s : S} (h : Fc s) {r c : Int} (h0 : 0 ≤ r) (h1 : r ≤ s.main.rows - 1) (h2 : 0 ≤ c) (h3 : c ≤ s.main.cols - 1) : Fc (atPlace s r c) :=
  ⟨⟨h.f.r1, h.f.r40, h.f.c1, h.f.c40, h0, h1, h2, h3, h.f.top0, h.f.tb, h.f.bot, h.f.a, h.f.g, h.f.gr, h.f.gc⟩, h.b⟩
theorem goal_in {s : S} (h : Fc s) {k n : Int} (hn : 1 ≤ n) : if (goal s k n).1 then 0 ≤ (goal s k n).2 ∧ (goal s k n).2 ≤ s.main.rows - 1 else 0 ≤ (goal s k n).2 ∧ (goal s k n).2 ≤ s.main.cols - 1 := by
  have f := h.f
  have h1 := f.r1; have h2 := f.c1; have h3 := f.row0; have h4 := f.row1; have h5 := f.col0; have h6 := f.col1; have h7 := f.top0; have h8 := f.tb; have h9 := f.bot
  unfold goal
  split
  · simp only [if_true]; unfold upRow; split <;> omega
  split
  · simp only [if_true]; unfold dnRow; split <;> omega
  split
  · rw [if_neg (by simp)]; constructor <;> simp only <;> omega
  split
  · rw [if_neg (by simp)]; constructor <;> simp only <;> omega
  split
  · rw [if_neg (by simp)]; constructor <;> simp only <;> omega
  split
  · simp only [if_true]; unfold noRow; split <;> omega
  split
  · rw [if_neg (by simp)]
    have hb := h.b
    have := Tab.nextOf_le (l := s.tabs) (a := s.cur.col.toNat) (n := n.toNat) (by omega)
    unfold nxCol
    constructor <;> simp only <;> omega
  · rw [if_neg (by simp)]
    have := Tab.backOf_le s.tabs s.cur.col.toNat n.toNat
    unfold bkCol
    constructor <;> simp only <;> omega
theorem goTo_is {s : S} (h : Fc s) {k n : Int} (hn : 1 ≤ n) : ∃ r c, goTo s k n = atPlace s r c ∧ 0 ≤ r ∧ r ≤ s.main.rows - 1 ∧ 0 ≤ c ∧ c ≤ s.main.cols - 1 := by
  have hg := goal_in h (k := k) hn
  have f := h.f
  unfold goTo
  cases e : (goal s k n).1
  · rw [e, if_neg (by simp)] at hg
    exact ⟨_, _, by rw [if_neg (by simp)], f.row0, f.row1, hg.1, hg.2⟩
  · rw [e, if_pos rfl] at hg
    exact ⟨_, _, by rw [if_pos rfl], hg.1, hg.2, f.col0, f.col1⟩
theorem stepS_fc {s : S} (h : Fc s) (p : Int × Int) : Fc (stepS s p) := by
  obtain ⟨r, c, e, h0, h1, h2, h3⟩ := goTo_is h (k := p.1) (n := max p.2 1) (by omega)
  unfold stepS
  rw [e]
  exact h.at h0 h1 h2 h3
theorem stepsS_is : ∀ (l : List (Int × Int)) {s : S} (_ : Fc s), ∃ r c, stepsS s l = atPlace s r c ∧ 0 ≤ r ∧ r ≤ s.main.rows - 1 ∧ 0 ≤ c ∧ c ≤ s.main.cols - 1
  | [], s, h => ⟨s.cur.row, s.cur.col, rfl, h.f.row0, h.f.row1, h.f.col0, h.f.col1⟩
  | p :: l, s, h => by
    obtain ⟨r, c, e, h0, h1, h2, h3⟩ := goTo_is h (k := p.1) (n := max p.2 1) (by omega)
    obtain ⟨r', c', e', g⟩ := stepsS_is l (stepS_fc h p)
    refine ⟨r', c', ?_, ?_⟩
    · show stepsS (stepS s p) l = _
      rw [e']
      unfold stepS
      rw [e]
      rfl
    · unfold stepS at g
      rw [e] at g
      exact g
theorem moveS_is {s : S} (h : Fc s) (key n m : Int) : ∃ r c, moveS s key n m = noWrap (atPlace s r c) ∧ 0 ≤ r ∧ r ≤ s.main.rows - 1 ∧ 0 ≤ c ∧ c ≤ s.main.cols - 1 := by
  obtain ⟨r, c, e, g⟩ := stepsS_is (stL key n m) h
  exact ⟨r, c, by unfold moveS; rw [e], g⟩
theorem place_ok {s : S} (h : Ok s) {r c : Int} (h0 : 0 ≤ r) (h1 : r ≤ s.main.rows - 1) (h2 : 0 ≤ c) (h3 : c ≤ s.main.cols - 1) : Ok (noWrap (atPlace s r c)) := by
  refine ⟨h.m, h.o, h.r, h.c, ?_, h.k2, h.k3, h.g, h.b, h.n, h.t, h.l⟩
  have hk := h.k1
  unfold cursorB at hk
  unfold cursorB noWrap atPlace
  simp only [Bool.and_eq_true] at hk ⊢
  exact ⟨rng_iff.2 ⟨h0, h1⟩, rng_iff.2 ⟨h2, h3⟩, rfl, hk.2.2.2⟩
theorem moveS_ok {s : S} (h : Ok s) (key n m : Int) : Ok (moveS s key n m) := by
  obtain ⟨r, c, e, h0, h1, h2, h3⟩ := moveS_is h.fc key n m
  rw [e]
  exact place_ok h h0 h1 h2 h3
/-! ### kept, and got back -/
def saveS (s : S) : S := if s.swapped then { s with too := s.cur } else { s with saved := s.cur }
def backC (s : S) : Cur := if s.swapped then s.too else s.saved
def restS (s : S) : S := { s with cur := backC s }
theorem saveS_ok {s : S} (h : Ok s) : Ok (saveS s) := by
  unfold saveS
  cases s.swapped
  · rw [if_neg (by simp)]; exact ⟨h.m, h.o, h.r, h.c, h.k1, h.k1, h.k3, h.g, h.b, h.n, h.t, h.l⟩
  · rw [if_pos rfl]; exact ⟨h.m, h.o, h.r, h.c, h.k1, h.k2, h.k1, h.g, h.b, h.n, h.t, h.l⟩
theorem restS_ok {s : S} (h : Ok s) : Ok (restS s) := by
  refine ⟨h.m, h.o, h.r, h.c, ?_, h.k2, h.k3, h.g, h.b, h.n, h.t, h.l⟩
  show cursorB (backC s) _ _ = true
  unfold backC
  cases s.swapped
  · exact h.k2
  · exact h.k3
theorem rest_save (s : S) : (restS (saveS s)).cur = s.cur := by
  unfold restS backC saveS
  cases hs : s.swapped
  · rfl
  · rfl
end Scr
end Go.Proofs.YtgjpojaegjdjcabDoor
end
section
/- A screen that lies in a box, its memory behind it; its copy under way; the call's two boxes. -/
namespace Go.Proofs.YtgjpojaegjdjcabDoor
set_option maxRecDepth 100000
open Go.RowKit
namespace Scr
open Go.Proofs.YtgjpojaegjdjcabDoor.Row

/-- A screen in a box, its memory behind it. -/
structure Pn (w : World) (b base : Nat) (s : S) (x y z : Value) : Prop where
  box : SBox w b s x y z
  own : Own w base s x y z
  lt : b < base
  up : base ≤ w.heap.size
theorem Pn.kept {w w' : World} {b base : Nat} {s : S} {x y z : Value} (h : Pn w b base s x y z) (hb : Below w.heap.size w w') : Pn w' b base s x y z := ⟨h.box.kept hb, h.own.kept hb, h.lt, Nat.le_trans h.up hb.size⟩
theorem Only.trans {b : Nat} {w w' w2 : World} (h : Only b w w') (h2 : Only b w' w2) : Only b w w2 := ⟨Nat.le_trans h.1 h2.1, fun g o hg e => h2.2 g o hg (h.2 g o hg e)⟩
theorem Only.bel {b : Nat} {w w' w2 : World} (h : Only b w w') (h2 : Below w'.heap.size w' w2) : Only b w w2 := ⟨Nat.le_trans h.1 h2.size, fun g o hg e => Blk.kept (h.2 g o hg e) h2⟩
theorem Own.set {w : World} {base g : Nat} {s : S} {x y z : Value} (h : Own w base s x y z) (hg : g < base) (j : Nat) (u : Value) : Own (w.setCell ⟨g, j, none⟩ u) base s x y z := ⟨h.m.set hg j u, h.o.set hg j u, ownB_set h.t hg j u⟩
theorem Own.as {w : World} {base : Nat} {s : S} {x y z : Value} (h : Own w base s x y z) (s' : S) (hm : s'.main.cells = s.main.cells) (ho : s'.other.cells = s.other.cells) (ht : s'.tabs = s.tabs) : Own w base s' x y z :=
  ⟨by rw [hm]; exact h.m, by rw [ho]; exact h.o, by rw [ht]; exact h.t⟩
theorem size_set (w : World) (a : Addr) (u : Value) : (w.setCell a u).heap.size = w.heap.size := by simp [World.setCell]
theorem Pn.wrap {w : World} {b base : Nat} {s : S} {x y z : Value} (h : Pn w b base s x y z) : Pn (w.setCell ⟨b, 9, none⟩ (.bool false)) b base (noWrap s) x y z :=
  ⟨Blk.set h.box 9 _, (h.own.set h.lt 9 _).as _ rfl rfl rfl, h.lt, by rw [size_set]; exact h.up⟩
theorem Pn.row {w : World} {b base : Nat} {s : S} {x y z : Value} (h : Pn w b base s x y z) (n : Int) : Pn (w.setCell ⟨b, 7, none⟩ (.int .i64 n)) b base (atRow s n) x y z :=
  ⟨Blk.set h.box 7 _, (h.own.set h.lt 7 _).as _ rfl rfl rfl, h.lt, by rw [size_set]; exact h.up⟩
/-- A screen in the call's first box, in memory of its own; the answer's box behind it. -/
structure Pb (w0 : World) (s : S) (x y z : Value) (w : World) : Prop where
  pn : Pn w w0.heap.size (w0.heap.size + 2) s x y z
  b1 : w.heap[w0.heap.size + 1]? = some (.cells zarr 37 (0, 0))
  bel : Below w0.heap.size w0 w
theorem Pb.kept {w0 w w' : World} {s : S} {x y z : Value} (h : Pb w0 s x y z w) (hb : Below w.heap.size w w') : Pb w0 s x y z w' := ⟨h.pn.kept hb, Blk.kept h.b1 hb, h.bel.trans (hb.mono h.bel.size)⟩
theorem Pb.only {w0 w w' : World} {s s' : S} {x y z x' y' z' : Value} (h : Pb w0 s x y z w) (hp : Pn w' w0.heap.size (w0.heap.size + 2) s' x' y' z') (hb : Below w0.heap.size w w') (ho : Only w0.heap.size w w') : Pb w0 s' x' y' z' w' :=
  ⟨hp, ho.2 _ _ (by omega) h.b1, h.bel.trans hb⟩
theorem Pb.wrap {w0 w : World} {s : S} {x y z : Value} (h : Pb w0 s x y z w) : Pb w0 (noWrap s) x y z (w.setCell ⟨w0.heap.size, 9, none⟩ (.bool false)) :=
  h.only h.pn.wrap ((Below.refl w0.heap.size w).setCell (show w0.heap.size ≤ w0.heap.size by omega) _) ((Only.refl w0.heap.size w).set _ _)
theorem Pb.row {w0 w : World} {s : S} {x y z : Value} (h : Pb w0 s x y z w) (n : Int) : Pb w0 (atRow s n) x y z (w.setCell ⟨w0.heap.size, 7, none⟩ (.int .i64 n)) :=
  h.only (h.pn.row n) ((Below.refl w0.heap.size w).setCell (show w0.heap.size ≤ w0.heap.size by omega) _) ((Only.refl w0.heap.size w).set _ _)
/-- It is copied into its first box. -/
theorem Pb.start {w0 w w' : World} {s : S} {x y z x' y' z' : Value} (h : Rz w0 s x y z w) (ho : Own w (w0.heap.size + 2) s x' y' z') (hs : Sto w w0.heap.size (sarr s x' y' z') w') : Pb w0 s x' y' z' w' :=
  ⟨⟨hs.box, hs.own ho (by omega), by omega, by rw [hs.size]; have := h.up; omega⟩, (hs.other _ (by omega)).trans h.b1, hs.below _ _ (Nat.le_refl _) h.bel⟩
/-- Its copy in memory of its own: only the slices are other. -/
structure Pc (w0 : World) (s : S) (x y z : Value) (w : World) : Prop where
  bel : Below w0.heap.size w0 w
  b0 : SBox w w0.heap.size s x y z
  b1 : w.heap[w0.heap.size + 1]? = some (.cells zarr 37 (0, 0))
theorem Pc.kept {w0 w w' : World} {s : S} {x y z : Value} (h : Pc w0 s x y z w) (hb : Below w.heap.size w w') : Pc w0 s x y z w' := ⟨h.bel.trans (hb.mono h.bel.size), h.b0.kept hb, Blk.kept h.b1 hb⟩
theorem Pc.putM {w0 w : World} {s : S} {x y z : Value} (h : Pc w0 s x y z w) (v : Value) : Pc w0 s v y z (w.setCell ⟨w0.heap.size, 2, none⟩ v) :=
  ⟨h.bel.setCell (show w0.heap.size ≤ w0.heap.size by omega) _, Blk.set h.b0 2 v, Blk.other h.b1 (by omega) _ _⟩
theorem Pc.putO {w0 w : World} {s : S} {x y z : Value} (h : Pc w0 s x y z w) (v : Value) : Pc w0 s x v z (w.setCell ⟨w0.heap.size, 5, none⟩ v) :=
  ⟨h.bel.setCell (show w0.heap.size ≤ w0.heap.size by omega) _, Blk.set h.b0 5 v, Blk.other h.b1 (by omega) _ _⟩
theorem Pc.putT {w0 w : World} {s : S} {x y z : Value} (h : Pc w0 s x y z w) (v : Value) : Pc w0 s x y v (w.setCell ⟨w0.heap.size, 39, none⟩ v) :=
  ⟨h.bel.setCell (show w0.heap.size ≤ w0.heap.size by omega) _, Blk.set h.b0 39 v, Blk.other h.b1 (by omega) _ _⟩
theorem Pc.up {w0 w : World} {s : S} {x y z : Value} (h : Pc w0 s x y z w) : w0.heap.size + 2 ≤ w.heap.size := Blk.lt h.b1
theorem Pc.start (w : World) (s : S) (x y z : Value) : Pc w s x y z ((w.alloc (.cells (sarr s x y z) 37)).alloc (.cells zarr 37)) :=
  ⟨(bel_alloc w _).alloc (by simp) _, heap_alloc2_old _ _ _, heap_alloc2_new _ _ _⟩
end Scr
end Go.Proofs.YtgjpojaegjdjcabDoor
end
