/- Joined texts: CurPlain, CurPut. -/
import Derived.Test.YtceaoadlhdgnmaaGreatDoorM43
namespace Go.Proofs.YtceaoadlhdgnmaaGreatDoor
set_option maxRecDepth 100000
section
namespace Scr
open Go.Proofs.YtceaoadlhdgnmaaGreatDoor.Row
def atPlace (s : S) (r c : Int) : S := { s with cur := { s.cur with row := r, col := c } }
def upRow (s : S) (n : Int) : Int := max (s.cur.row - n) (if s.top ≤ s.cur.row then s.top else 0)
def dnRow (s : S) (n : Int) : Int := min (s.cur.row + n) (if s.cur.row ≤ s.bottom then s.bottom else s.main.rows - 1)
def noRow (s : S) (n : Int) : Int := if s.cur.origin then min (s.top + n - 1) s.bottom else min (n - 1) (s.main.rows - 1)
def nxCol (s : S) (n : Int) : Int := (Tab.nextOf s.tabs s.cur.col.toNat n.toNat : Nat)
def bkCol (s : S) (n : Int) : Int := (Tab.backOf s.tabs s.cur.col.toNat n.toNat : Nat)
def goal (s : S) (k n : Int) : Bool × Int :=
  if k = 65 then (true, upRow s n) else if k = 66 then (true, dnRow s n) else if k = 67 then (false, min (s.cur.col + n) (s.main.cols - 1)) else if k = 68 then (false, max (s.cur.col - n) 0)
  else if k = 71 then (false, min (n - 1) (s.main.cols - 1)) else if k = 100 then (true, noRow s n) else if k = 73 then (false, nxCol s n) else (false, bkCol s n)
def goTo (s : S) (k n : Int) : S := if (goal s k n).1 then atPlace s (goal s k n).2 s.cur.col else atPlace s s.cur.row (goal s k n).2
def plainKey (k : Int) : Prop := k = 65 ∨ k = 66 ∨ k = 67 ∨ k = 68 ∨ k = 71 ∨ k = 100 ∨ k = 73 ∨ k = 90
def stL (key n m : Int) : List (Int × Int) :=
  if key = 69 then [(66, n), (71, 1)] else if key = 70 then [(65, n), (71, 1)] else if key = 72 then [(100, n), (71, m)]
  else if key = 65 ∨ key = 66 ∨ key = 67 ∨ key = 68 ∨ key = 71 ∨ key = 100 ∨ key = 73 ∨ key = 90 then [(key, n)] else []
def keyB (k : Int) : Bool := k == 65 || (k == 66 || (k == 67 || (k == 68 || (k == 69 || (k == 70 || (k == 71 || (k == 100 || (k == 72 || (k == 73 || k == 90)))))))))
def stepS (s : S) (p : Int × Int) : S := goTo s p.1 (max p.2 1)
def stepsS (s : S) (l : List (Int × Int)) : S := l.foldl stepS s
def moveS (s : S) (key n m : Int) : S := noWrap (stepsS s (stL key n m))
theorem stL_nil {key n m : Int} : stL key n m = [] ↔ keyB key = false := by
  unfold stL keyB
  simp only [Bool.or_eq_false_iff, beq_eq_false_iff_ne]
  constructor
  · intro h
    split at h
    · cases h
    split at h
    · cases h
    split at h
    · cases h
    split at h
    · cases h
    omega
  · intro h
    rw [if_neg (by omega), if_neg (by omega), if_neg (by omega), if_neg (by omega)]
theorem stL_plain {key n m : Int} (hn : numB n = true) (hm : numB m = true) : ∀ p, p ∈ stL key n m → plainKey p.1 ∧ -1 ≤ p.2 ∧ p.2 ≤ 9999 := by
  have hn := numB_iff.1 hn
  have hm := numB_iff.1 hm
  intro p hp
  unfold stL at hp
  unfold plainKey
  split at hp
  · simp only [List.mem_cons, List.not_mem_nil, or_false] at hp
    rcases hp with rfl | rfl
    · exact ⟨.inr (.inl rfl), hn⟩
    · exact ⟨.inr (.inr (.inr (.inr (.inl rfl)))), by decide, by decide⟩
  split at hp
  · simp only [List.mem_cons, List.not_mem_nil, or_false] at hp
    rcases hp with rfl | rfl
    · exact ⟨.inl rfl, hn⟩
    · exact ⟨.inr (.inr (.inr (.inr (.inl rfl)))), by decide, by decide⟩
  split at hp
  · simp only [List.mem_cons, List.not_mem_nil, or_false] at hp
    rcases hp with rfl | rfl
    · exact ⟨.inr (.inr (.inr (.inr (.inr (.inl rfl))))), hn⟩
    · exact ⟨.inr (.inr (.inr (.inr (.inl rfl)))), hm⟩
  split at hp
  · rename_i hk
    simp only [List.mem_cons, List.not_mem_nil, or_false] at hp
    subst hp
    exact ⟨hk, hn⟩
  · cases hp
theorem stL_len (key n m : Int) : (stL key n m).length ≤ 2 := by
  unfold stL
  repeat' split
  all_goals simp
structure Fc (s : S) : Prop where
  f : Facts s
  b : (s.tabs.length : Int) = s.main.cols
theorem Ok.fc {s : S} (h : Ok s) : Fc s := ⟨h.facts, h.b⟩
theorem Fc.at {s : S} (h : Fc s) {r c : Int} (h0 : 0 ≤ r) (h1 : r ≤ s.main.rows - 1) (h2 : 0 ≤ c) (h3 : c ≤ s.main.cols - 1) : Fc (atPlace s r c) :=
  ⟨⟨h.f.r1, h.f.r40, h.f.c1, h.f.c40, h0, h1, h2, h3, h.f.top0, h.f.tb, h.f.bot, h.f.a, h.f.g, h.f.gr, h.f.gc⟩, h.b⟩
theorem goal_in {s : S} (h : Fc s) {k n : Int} (hn : 1 ≤ n) : if (goal s k n).1 then 0 ≤ (goal s k n).2 ∧ (goal s k n).2 ≤ s.main.rows - 1 else 0 ≤ (goal s k n).2 ∧ (goal s k n).2 ≤ s.main.cols - 1 := by
  have f := h.f
  have h1 := f.r1; have h2 := f.c1; have h3 := f.row0; have h4 := f.row1; have h5 := f.col0; have h6 := f.col1; have h7 := f.top0; have h8 := f.tb; have h9 := f.bot
  unfold goal
  split
  · simp only [if_true]; unfold upRow; split <;> omega
  split
  · simp only [if_true]; unfold dnRow; split <;> omega
  split
  · rw [if_neg (by simp)]; constructor <;> simp only <;> omega
  split
  · rw [if_neg (by simp)]; constructor <;> simp only <;> omega
  split
  · rw [if_neg (by simp)]; constructor <;> simp only <;> omega
  split
  · simp only [if_true]; unfold noRow; split <;> omega
  split
  · rw [if_neg (by simp)]
    have hb := h.b
    have := Tab.nextOf_le (l := s.tabs) (a := s.cur.col.toNat) (n := n.toNat) (by omega)
    unfold nxCol
    constructor <;> simp only <;> omega
  · rw [if_neg (by simp)]
    have := Tab.backOf_le s.tabs s.cur.col.toNat n.toNat
    unfold bkCol
    constructor <;> simp only <;> omega
theorem goTo_is {s : S} (h : Fc s) {k n : Int} (hn : 1 ≤ n) : ∃ r c, goTo s k n = atPlace s r c ∧ 0 ≤ r ∧ r ≤ s.main.rows - 1 ∧ 0 ≤ c ∧ c ≤ s.main.cols - 1 := by
  have hg := goal_in h (k := k) hn
  have f := h.f
  unfold goTo
  cases e : (goal s k n).1
  · rw [e, if_neg (by simp)] at hg
    exact ⟨_, _, by rw [if_neg (by simp)], f.row0, f.row1, hg.1, hg.2⟩
  · rw [e, if_pos rfl] at hg
    exact ⟨_, _, by rw [if_pos rfl], hg.1, hg.2, f.col0, f.col1⟩
theorem stepS_fc {s : S} (h : Fc s) (p : Int × Int) : Fc (stepS s p) := by
  obtain ⟨r, c, e, h0, h1, h2, h3⟩ := goTo_is h (k := p.1) (n := max p.2 1) (by omega)
  unfold stepS
  rw [e]
  exact h.at h0 h1 h2 h3
theorem stepsS_is : ∀ (l : List (Int × Int)) {s : S} (_ : Fc s), ∃ r c, stepsS s l = atPlace s r c ∧ 0 ≤ r ∧ r ≤ s.main.rows - 1 ∧ 0 ≤ c ∧ c ≤ s.main.cols - 1
  | [], s, h => ⟨s.cur.row, s.cur.col, rfl, h.f.row0, h.f.row1, h.f.col0, h.f.col1⟩
  | p :: l, s, h => by
    obtain ⟨r, c, e, h0, h1, h2, h3⟩ := goTo_is h (k := p.1) (n := max p.2 1) (by omega)
    obtain ⟨r', c', e', g⟩ := stepsS_is l (stepS_fc h p)
    refine ⟨r', c', ?_, ?_⟩
    · show stepsS (stepS s p) l = _
      rw [e']
      unfold stepS
      rw [e]
      rfl
    · unfold stepS at g
      rw [e] at g
      exact g
theorem moveS_is {s : S} (h : Fc s) (key n m : Int) : ∃ r c, moveS s key n m = noWrap (atPlace s r c) ∧ 0 ≤ r ∧ r ≤ s.main.rows - 1 ∧ 0 ≤ c ∧ c ≤ s.main.cols - 1 := by
  obtain ⟨r, c, e, g⟩ := stepsS_is (stL key n m) h
  exact ⟨r, c, by unfold moveS; rw [e], g⟩
theorem place_ok {s : S} (h : Ok s) {r c : Int} (h0 : 0 ≤ r) (h1 : r ≤ s.main.rows - 1) (h2 : 0 ≤ c) (h3 : c ≤ s.main.cols - 1) : Ok (noWrap (atPlace s r c)) := by
  refine ⟨h.m, h.o, h.r, h.c, ?_, h.k2, h.k3, h.g, h.b, h.n, h.t, h.l⟩
  have hk := h.k1
  unfold cursorB at hk
  unfold cursorB noWrap atPlace
  simp only [Bool.and_eq_true] at hk ⊢
  exact ⟨rng_iff.2 ⟨h0, h1⟩, rng_iff.2 ⟨h2, h3⟩, rfl, hk.2.2.2⟩
theorem moveS_ok {s : S} (h : Ok s) (key n m : Int) : Ok (moveS s key n m) := by
  obtain ⟨r, c, e, h0, h1, h2, h3⟩ := moveS_is h.fc key n m
  rw [e]
  exact place_ok h h0 h1 h2 h3
def saveS (s : S) : S := if s.swapped then { s with too := s.cur } else { s with saved := s.cur }
def backC (s : S) : Cur := if s.swapped then s.too else s.saved
def restS (s : S) : S := { s with cur := backC s }
theorem saveS_ok {s : S} (h : Ok s) : Ok (saveS s) := by
  unfold saveS
  cases s.swapped
  · rw [if_neg (by simp)]; exact ⟨h.m, h.o, h.r, h.c, h.k1, h.k1, h.k3, h.g, h.b, h.n, h.t, h.l⟩
  · rw [if_pos rfl]; exact ⟨h.m, h.o, h.r, h.c, h.k1, h.k2, h.k1, h.g, h.b, h.n, h.t, h.l⟩
theorem restS_ok {s : S} (h : Ok s) : Ok (restS s) := by
  refine ⟨h.m, h.o, h.r, h.c, ?_, h.k2, h.k3, h.g, h.b, h.n, h.t, h.l⟩
  show cursorB (backC s) _ _ = true
  unfold backC
  cases s.swapped
  · exact h.k2
  · exact h.k3
end Scr
end
section
open Go.RowKit
namespace Scr
open Go.Proofs.YtceaoadlhdgnmaaGreatDoor.Row
theorem own_onlyS {w w' : World} {b base : Nat} {A : Array Value} {s : S} {x y z : Value} (ho : Own w base s x y z) (hb : w.heap[b]? = some (.cells A 36 (0, 0))) (h : Only b w w') : Own w' base s x y z := by
  refine ⟨ho.m.only h (scr_ne ho.m hb), ho.o.only h (scr_ne ho.o hb), ho.t.1, ?_⟩
  have hn := scr_neB ho.t hb
  rcases ho.t.2 with h0 | ⟨g, cap, cur, rfl, hg, hc, rest⟩
  · exact .inl h0
  · exact .inr ⟨g, cap, cur, rfl, hg, h.2 g _ (fun e => hn (by subst e; rfl)) hc, rest⟩
def cput (w : World) (b : Nat) (k : Cur) : World := (((((((((w.setCell ⟨b, 7, none⟩ (.int .i64 k.row)).setCell ⟨b, 8, none⟩ (.int .i64 k.col)).setCell ⟨b, 9, none⟩ (.bool k.wrap)).setCell ⟨b, 10, none⟩ (.int .i64 k.a.fg)).setCell ⟨b, 11, none⟩ (.int .i64 k.a.bg)).setCell ⟨b, 12, none⟩ (.int .i64 k.a.flags)).setCell ⟨b, 13, none⟩ (.int .i64 k.g0)).setCell ⟨b, 14, none⟩ (.int .i64 k.g1)).setCell ⟨b, 15, none⟩ (.int .i64 k.shift)).setCell ⟨b, 16, none⟩ (.bool k.origin)
theorem SBox.cput {w : World} {b : Nat} {s : S} {x y z : Value} (h : SBox w b s x y z) (k : Cur) : SBox (cput w b k) b { s with cur := k } x y z := by
  have h1 : SBox _ b { s with cur := { s.cur with row := k.row } } x y z := Blk.set h 7 _
  have h2 : SBox _ b { s with cur := { s.cur with row := k.row, col := k.col } } x y z := Blk.set h1 8 _
  have h3 : SBox _ b { s with cur := { s.cur with row := k.row, col := k.col, wrap := k.wrap } } x y z := Blk.set h2 9 _
  have h4 : SBox _ b { s with cur := { s.cur with row := k.row, col := k.col, wrap := k.wrap, a := { s.cur.a with fg := k.a.fg } } } x y z := Blk.set h3 10 _
  have h5 : SBox _ b { s with cur := { s.cur with row := k.row, col := k.col, wrap := k.wrap, a := { s.cur.a with fg := k.a.fg, bg := k.a.bg } } } x y z := Blk.set h4 11 _
  have h6 : SBox _ b { s with cur := { s.cur with row := k.row, col := k.col, wrap := k.wrap, a := { s.cur.a with fg := k.a.fg, bg := k.a.bg, flags := k.a.flags } } } x y z := Blk.set h5 12 _
  have h7 : SBox _ b { s with cur := { s.cur with row := k.row, col := k.col, wrap := k.wrap, g0 := k.g0, a := { s.cur.a with fg := k.a.fg, bg := k.a.bg, flags := k.a.flags } } } x y z := Blk.set h6 13 _
  have h8 : SBox _ b { s with cur := { s.cur with row := k.row, col := k.col, wrap := k.wrap, g0 := k.g0, g1 := k.g1, a := { s.cur.a with fg := k.a.fg, bg := k.a.bg, flags := k.a.flags } } } x y z := Blk.set h7 14 _
  have h9 : SBox _ b { s with cur := { s.cur with row := k.row, col := k.col, wrap := k.wrap, g0 := k.g0, g1 := k.g1, shift := k.shift, a := { s.cur.a with fg := k.a.fg, bg := k.a.bg, flags := k.a.flags } } } x y z := Blk.set h8 15 _
  have h10 : SBox _ b { s with cur := { s.cur with row := k.row, col := k.col, wrap := k.wrap, g0 := k.g0, g1 := k.g1, shift := k.shift, origin := k.origin, a := { s.cur.a with fg := k.a.fg, bg := k.a.bg, flags := k.a.flags } } } x y z := Blk.set h9 16 _
  exact h10
theorem cput_only (w : World) (b : Nat) (k : Cur) : Only b w (cput w b k) :=
  ((((((((((Only.refl b w).set 7 _).set 8 _).set 9 _).set 10 _).set 11 _).set 12 _).set 13 _).set 14 _).set 15 _).set 16 _
theorem cput_below {w w0 : World} {b B : Nat} (h : Below B w0 w) (hB : B ≤ b) (k : Cur) : Below B w0 (cput w b k) :=
  (((((((((h.setCell hB _).setCell hB _).setCell hB _).setCell hB _).setCell hB _).setCell hB _).setCell hB _).setCell hB _).setCell hB _).setCell hB _
theorem Pn.cput {w : World} {b base : Nat} {s : S} {x y z : Value} (h : Pn w b base s x y z) (k : Cur) : Pn (Scr.cput w b k) b base { s with cur := k } x y z :=
  ⟨SBox.cput h.box k, (own_onlyS h.own h.box (cput_only w b k)).as _ rfl rfl rfl, h.lt, Nat.le_trans h.up (cput_only w b k).1⟩
def cputA (w : World) (b : Nat) (k : Cur) : World := (((((((((w.setCell ⟨b, 17, none⟩ (.int .i64 k.row)).setCell ⟨b, 18, none⟩ (.int .i64 k.col)).setCell ⟨b, 19, none⟩ (.bool k.wrap)).setCell ⟨b, 20, none⟩ (.int .i64 k.a.fg)).setCell ⟨b, 21, none⟩ (.int .i64 k.a.bg)).setCell ⟨b, 22, none⟩ (.int .i64 k.a.flags)).setCell ⟨b, 23, none⟩ (.int .i64 k.g0)).setCell ⟨b, 24, none⟩ (.int .i64 k.g1)).setCell ⟨b, 25, none⟩ (.int .i64 k.shift)).setCell ⟨b, 26, none⟩ (.bool k.origin)
theorem SBox.cputA {w : World} {b : Nat} {s : S} {x y z : Value} (h : SBox w b s x y z) (k : Cur) : SBox (cputA w b k) b { s with saved := k } x y z := by
  have h1 : SBox _ b { s with saved := { s.saved with row := k.row } } x y z := Blk.set h 17 _
  have h2 : SBox _ b { s with saved := { s.saved with row := k.row, col := k.col } } x y z := Blk.set h1 18 _
  have h3 : SBox _ b { s with saved := { s.saved with row := k.row, col := k.col, wrap := k.wrap } } x y z := Blk.set h2 19 _
  have h4 : SBox _ b { s with saved := { s.saved with row := k.row, col := k.col, wrap := k.wrap, a := { s.saved.a with fg := k.a.fg } } } x y z := Blk.set h3 20 _
  have h5 : SBox _ b { s with saved := { s.saved with row := k.row, col := k.col, wrap := k.wrap, a := { s.saved.a with fg := k.a.fg, bg := k.a.bg } } } x y z := Blk.set h4 21 _
  have h6 : SBox _ b { s with saved := { s.saved with row := k.row, col := k.col, wrap := k.wrap, a := { s.saved.a with fg := k.a.fg, bg := k.a.bg, flags := k.a.flags } } } x y z := Blk.set h5 22 _
  have h7 : SBox _ b { s with saved := { s.saved with row := k.row, col := k.col, wrap := k.wrap, g0 := k.g0, a := { s.saved.a with fg := k.a.fg, bg := k.a.bg, flags := k.a.flags } } } x y z := Blk.set h6 23 _
  have h8 : SBox _ b { s with saved := { s.saved with row := k.row, col := k.col, wrap := k.wrap, g0 := k.g0, g1 := k.g1, a := { s.saved.a with fg := k.a.fg, bg := k.a.bg, flags := k.a.flags } } } x y z := Blk.set h7 24 _
  have h9 : SBox _ b { s with saved := { s.saved with row := k.row, col := k.col, wrap := k.wrap, g0 := k.g0, g1 := k.g1, shift := k.shift, a := { s.saved.a with fg := k.a.fg, bg := k.a.bg, flags := k.a.flags } } } x y z := Blk.set h8 25 _
  have h10 : SBox _ b { s with saved := { s.saved with row := k.row, col := k.col, wrap := k.wrap, g0 := k.g0, g1 := k.g1, shift := k.shift, origin := k.origin, a := { s.saved.a with fg := k.a.fg, bg := k.a.bg, flags := k.a.flags } } } x y z := Blk.set h9 26 _
  exact h10
theorem cputA_only (w : World) (b : Nat) (k : Cur) : Only b w (cputA w b k) :=
  ((((((((((Only.refl b w).set 17 _).set 18 _).set 19 _).set 20 _).set 21 _).set 22 _).set 23 _).set 24 _).set 25 _).set 26 _
theorem cputA_below {w w0 : World} {b B : Nat} (h : Below B w0 w) (hB : B ≤ b) (k : Cur) : Below B w0 (cputA w b k) :=
  (((((((((h.setCell hB _).setCell hB _).setCell hB _).setCell hB _).setCell hB _).setCell hB _).setCell hB _).setCell hB _).setCell hB _).setCell hB _
theorem Pn.cputA {w : World} {b base : Nat} {s : S} {x y z : Value} (h : Pn w b base s x y z) (k : Cur) : Pn (Scr.cputA w b k) b base { s with saved := k } x y z :=
  ⟨SBox.cputA h.box k, (own_onlyS h.own h.box (cputA_only w b k)).as _ rfl rfl rfl, h.lt, Nat.le_trans h.up (cputA_only w b k).1⟩
def cputB (w : World) (b : Nat) (k : Cur) : World := (((((((((w.setCell ⟨b, 27, none⟩ (.int .i64 k.row)).setCell ⟨b, 28, none⟩ (.int .i64 k.col)).setCell ⟨b, 29, none⟩ (.bool k.wrap)).setCell ⟨b, 30, none⟩ (.int .i64 k.a.fg)).setCell ⟨b, 31, none⟩ (.int .i64 k.a.bg)).setCell ⟨b, 32, none⟩ (.int .i64 k.a.flags)).setCell ⟨b, 33, none⟩ (.int .i64 k.g0)).setCell ⟨b, 34, none⟩ (.int .i64 k.g1)).setCell ⟨b, 35, none⟩ (.int .i64 k.shift)).setCell ⟨b, 36, none⟩ (.bool k.origin)
theorem SBox.cputB {w : World} {b : Nat} {s : S} {x y z : Value} (h : SBox w b s x y z) (k : Cur) : SBox (cputB w b k) b { s with too := k } x y z := by
  have h1 : SBox _ b { s with too := { s.too with row := k.row } } x y z := Blk.set h 27 _
  have h2 : SBox _ b { s with too := { s.too with row := k.row, col := k.col } } x y z := Blk.set h1 28 _
  have h3 : SBox _ b { s with too := { s.too with row := k.row, col := k.col, wrap := k.wrap } } x y z := Blk.set h2 29 _
  have h4 : SBox _ b { s with too := { s.too with row := k.row, col := k.col, wrap := k.wrap, a := { s.too.a with fg := k.a.fg } } } x y z := Blk.set h3 30 _
  have h5 : SBox _ b { s with too := { s.too with row := k.row, col := k.col, wrap := k.wrap, a := { s.too.a with fg := k.a.fg, bg := k.a.bg } } } x y z := Blk.set h4 31 _
  have h6 : SBox _ b { s with too := { s.too with row := k.row, col := k.col, wrap := k.wrap, a := { s.too.a with fg := k.a.fg, bg := k.a.bg, flags := k.a.flags } } } x y z := Blk.set h5 32 _
  have h7 : SBox _ b { s with too := { s.too with row := k.row, col := k.col, wrap := k.wrap, g0 := k.g0, a := { s.too.a with fg := k.a.fg, bg := k.a.bg, flags := k.a.flags } } } x y z := Blk.set h6 33 _
  have h8 : SBox _ b { s with too := { s.too with row := k.row, col := k.col, wrap := k.wrap, g0 := k.g0, g1 := k.g1, a := { s.too.a with fg := k.a.fg, bg := k.a.bg, flags := k.a.flags } } } x y z := Blk.set h7 34 _
  have h9 : SBox _ b { s with too := { s.too with row := k.row, col := k.col, wrap := k.wrap, g0 := k.g0, g1 := k.g1, shift := k.shift, a := { s.too.a with fg := k.a.fg, bg := k.a.bg, flags := k.a.flags } } } x y z := Blk.set h8 35 _
  have h10 : SBox _ b { s with too := { s.too with row := k.row, col := k.col, wrap := k.wrap, g0 := k.g0, g1 := k.g1, shift := k.shift, origin := k.origin, a := { s.too.a with fg := k.a.fg, bg := k.a.bg, flags := k.a.flags } } } x y z := Blk.set h9 36 _
  exact h10
theorem cputB_only (w : World) (b : Nat) (k : Cur) : Only b w (cputB w b k) :=
  ((((((((((Only.refl b w).set 27 _).set 28 _).set 29 _).set 30 _).set 31 _).set 32 _).set 33 _).set 34 _).set 35 _).set 36 _
theorem cputB_below {w w0 : World} {b B : Nat} (h : Below B w0 w) (hB : B ≤ b) (k : Cur) : Below B w0 (cputB w b k) :=
  (((((((((h.setCell hB _).setCell hB _).setCell hB _).setCell hB _).setCell hB _).setCell hB _).setCell hB _).setCell hB _).setCell hB _).setCell hB _
theorem Pn.cputB {w : World} {b base : Nat} {s : S} {x y z : Value} (h : Pn w b base s x y z) (k : Cur) : Pn (Scr.cputB w b k) b base { s with too := k } x y z :=
  ⟨SBox.cputB h.box k, (own_onlyS h.own h.box (cputB_only w b k)).as _ rfl rfl rfl, h.lt, Nat.le_trans h.up (cputB_only w b k).1⟩
end Scr
end
end Go.Proofs.YtceaoadlhdgnmaaGreatDoor
