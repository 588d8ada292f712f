/- Joined texts: ScrPlain, ScrMem, ScrBox, ScrParts. -/
import Derived.Test.YtceaoadlhdgnmaaGreatDoorM4
import Derived.Test.YtceaoadlhdgnmaaGreatDoorM11
import Derived.Lib.ValidU
import Derived.Laws.Rows
import Derived.Laws.Tables
import Derived.Laws.CopyOwn
namespace Go.Proofs.YtceaoadlhdgnmaaGreatDoor
set_option maxRecDepth 100000
section
namespace Scr
open Go.Proofs.YtceaoadlhdgnmaaGreatDoor.Row Utf Wid
structure Cur where
  row : Int
  col : Int
  wrap : Bool
  a : Look
  g0 : Int
  g1 : Int
  shift : Int
  origin : Bool
structure S where
  main : Gr
  other : Gr
  swapped : Bool
  cur : Cur
  saved : Cur
  too : Cur
  top : Int
  bottom : Int
  tabs : List Bool
  modes : Int
  title : List UInt8
  last : Int
noncomputable def gridB (G : Gr) : Bool := @decide (GridOk G) (Classical.propDecidable _)
theorem gridB_iff (G : Gr) : gridB G = true ↔ GridOk G := by unfold gridB; exact @decide_eq_true_iff _ (Classical.propDecidable _)
def cursorB (c : Cur) (m n : Int) : Bool :=
  rng c.row 0 m && (rng c.col 0 n && ((!c.wrap || c.col == n) && (attrOk c.a && (rng c.g0 0 1 && (rng c.g1 0 1 && rng c.shift 0 1)))))
def titleB (t : List UInt8) : Bool := decide (t.length ≤ 64) && (Lib.validD t && t.all fun b => decide (32 ≤ b.toNat))
def marginsB (top bottom rows : Int) : Bool := if rows = 1 then top == 0 && bottom == 0 else decide (0 ≤ top) && (decide (top < bottom) && decide (bottom < rows))
def lastB (r : Int) : Bool := r == 0 || (wid r == 1 || wid r == 2)
noncomputable def okB (s : S) : Bool :=
  gridB s.main && (gridB s.other && (s.other.rows == s.main.rows && (s.other.cols == s.main.cols && (cursorB s.cur (s.main.rows - 1) (s.main.cols - 1) && (cursorB s.saved (s.main.rows - 1) (s.main.cols - 1) &&
    (cursorB s.too (s.main.rows - 1) (s.main.cols - 1) && (marginsB s.top s.bottom s.main.rows && ((s.tabs.length : Int) == s.main.cols && (rng s.modes 0 1023 && (titleB s.title && lastB s.last))))))))))
def plainN : Nat → List UInt8 → Bool
  | 0, _ => true
  | n + 1, l => if l = [] then true else decide (32 ≤ (dec l).1) && plainN n (l.drop (dec l).2)
theorem dec_plain {l : List UInt8} (h : l ≠ []) : (l.take (dec l).2).all (fun b => decide (32 ≤ b.toNat)) = decide (32 ≤ (dec l).1) := by
  rcases decodeN_cases l.length (l.getD 0 0).toNat (l.getD 1 0).toNat (l.getD 2 0).toNat (l.getD 3 0).toNat (byte_lt _) (byte_lt _) (byte_lt _) (byte_lt _) with e | ⟨h1, e⟩ | ⟨hn, h1, h2, e⟩ | ⟨hn, h1, h2, h3, e⟩ | ⟨hn, h1, h2, h3, h4, e⟩
  all_goals have e' : dec l = _ := e
  · match l, h with
    | a :: r, _ =>
      have ha : 128 ≤ a.toNat := by
        rcases Nat.lt_or_ge a.toNat 128 with q | q
        · exfalso
          have e2 : dec (a :: r) = (a.toNat, 1) := by
            unfold dec Lib.decodeN
            rw [if_pos (show ((a :: r).getD 0 0).toNat < 128 from q)]; rfl
          rw [e'] at e2
          have := congrArg Prod.fst e2
          simp only at this
          omega
        · exact q
      rw [e']
      simp only [List.take_succ_cons, List.take_zero, List.all_cons, List.all_nil, Bool.and_true]
      rw [decide_eq_true (show 32 ≤ a.toNat by omega)]; rfl
  · match l, h with
    | a :: r, _ =>
      rw [e']
      simp only [List.take_succ_cons, List.take_zero, List.all_cons, List.all_nil, Bool.and_true]
      rfl
  · match l, hn with
    | a :: b :: r, _ =>
      have q1 : 194 ≤ a.toNat ∧ a.toNat ≤ 244 := more_pos (b := a.toNat) (by have : more a.toNat = 1 := h1; omega)
      have q2 : 128 ≤ b.toNat ∧ b.toNat ≤ 191 := follows_pos h2
      have q3 : 194 ≤ a.toNat ∧ a.toNat ≤ 223 := by
        have hh : more a.toNat = 1 := h1
        unfold more at hh; repeat' split at hh
        all_goals omega
      rw [e']
      simp only [List.take_succ_cons, List.take_zero, List.all_cons, List.all_nil, Bool.and_true]
      rw [decide_eq_true (show 32 ≤ a.toNat by omega), decide_eq_true (show 32 ≤ b.toNat by omega)]
      symm
      show decide (32 ≤ a.toNat % 32 * 64 + b.toNat % 64) = true
      exact decide_eq_true (by omega)
  · match l, hn with
    | a :: b :: c :: r, _ =>
      have q2 : 128 ≤ b.toNat ∧ b.toNat ≤ 191 := follows_pos h2
      have q4 : 128 ≤ c.toNat ∧ c.toNat ≤ 191 := follows_pos h3
      have q3 : 224 ≤ a.toNat ∧ a.toNat ≤ 239 := by
        have hh : more a.toNat = 2 := h1
        unfold more at hh; repeat' split at hh
        all_goals omega
      have q5 : a.toNat = 224 → 160 ≤ b.toNat := by
        intro ea
        have := (follows_iff.1 h2).1
        unfold low at this
        rw [if_pos rfl, if_pos (show ((a :: b :: c :: r).getD 0 0).toNat = 224 from ea)] at this
        exact this
      rw [e']
      simp only [List.take_succ_cons, List.take_zero, List.all_cons, List.all_nil, Bool.and_true]
      rw [decide_eq_true (show 32 ≤ a.toNat by omega), decide_eq_true (show 32 ≤ b.toNat by omega), decide_eq_true (show 32 ≤ c.toNat by omega)]
      symm
      show decide (32 ≤ (a.toNat % 16 * 64 + b.toNat % 64) * 64 + c.toNat % 64) = true
      exact decide_eq_true (by omega)
  · match l, hn with
    | a :: b :: c :: d :: r, _ =>
      have q2 : 128 ≤ b.toNat ∧ b.toNat ≤ 191 := follows_pos h2
      have q4 : 128 ≤ c.toNat ∧ c.toNat ≤ 191 := follows_pos h3
      have q6 : 128 ≤ d.toNat ∧ d.toNat ≤ 191 := follows_pos h4
      have q3 : 240 ≤ a.toNat ∧ a.toNat ≤ 244 := by
        have hh : more a.toNat = 3 := h1
        unfold more at hh; repeat' split at hh
        all_goals omega
      have q5 : a.toNat = 240 → 144 ≤ b.toNat := by
        intro ea
        have := (follows_iff.1 h2).1
        unfold low at this
        rw [if_pos rfl, if_neg (show ¬ ((a :: b :: c :: d :: r).getD 0 0).toNat = 224 from fun q => by have : a.toNat = 224 := q; omega), if_pos (show ((a :: b :: c :: d :: r).getD 0 0).toNat = 240 from ea)] at this
        exact this
      rw [e']
      simp only [List.take_succ_cons, List.take_zero, List.all_cons, List.all_nil, Bool.and_true]
      rw [decide_eq_true (show 32 ≤ a.toNat by omega), decide_eq_true (show 32 ≤ b.toNat by omega), decide_eq_true (show 32 ≤ c.toNat by omega), decide_eq_true (show 32 ≤ d.toNat by omega)]
      symm
      show decide (32 ≤ ((a.toNat % 8 * 64 + b.toNat % 64) * 64 + c.toNat % 64) * 64 + d.toNat % 64) = true
      exact decide_eq_true (by omega)
theorem plain_iff : ∀ (n : Nat) (l : List UInt8), l.length ≤ n → plainN n l = l.all fun b => decide (32 ≤ b.toNat)
  | 0, l, h => by
    have : l = [] := List.eq_nil_of_length_eq_zero (by omega)
    subst this; rfl
  | n + 1, l, h => by
    by_cases hl : l = []
    · subst hl; rfl
    · have h1 := dec_pos hl
      simp only [plainN, if_neg hl]
      rw [plain_iff n _ (by rw [List.length_drop]; omega), ← dec_plain hl, ← List.all_append, List.take_append_drop]
def plain : Look := ⟨-1, -1, 0⟩
theorem plain_ok : attrOk plain = true := rfl
def first : Cur := ⟨0, 0, false, plain, 0, 0, 0, false⟩
def sizeB (r c : Int) : Bool := rng r 1 40 && rng c 1 40
theorem rng_iff {n lo hi : Int} : rng n lo hi = true ↔ lo ≤ n ∧ n ≤ hi := by unfold rng; rw [Bool.and_eq_true, decide_eq_true_eq, decide_eq_true_eq]
def newG (r c : Nat) : Gr := ⟨r, c, (news r c plain).flatten⟩
def newS (r c : Nat) : S := ⟨newG r c, newG r c, false, first, first, first, 0, (r : Int) - 1, Tab.grownOf [] c, 9, [], 0⟩
def fitG (G : Gr) (r c : Nat) : Gr := ⟨r, c, (fitted (rowsOf G.cols.toNat G.rows.toNat G.cells) r c plain).flatten⟩
def fitC (k : Cur) (r c : Nat) : Cur := { k with row := min k.row ((r : Int) - 1), col := min k.col ((c : Int) - 1), wrap := false }
def resized (s : S) (r c : Nat) : S :=
  { s with main := fitG s.main r c, other := fitG s.other r c, cur := fitC s.cur r c, saved := fitC s.saved r c, too := fitC s.too r c, top := 0, bottom := (r : Int) - 1, tabs := Tab.grownOf s.tabs c }
def seenG (s : S) : Gr := if s.swapped then s.other else s.main
def noG : Gr := ⟨0, 0, []⟩
def noC : Cur := ⟨0, 0, false, ⟨0, 0, 0⟩, 0, 0, 0, false⟩
def noS : S := ⟨noG, noG, false, noC, noC, noC, 0, 0, [], 0, [], 0⟩
end Scr
end
section
open Go.RowKit
namespace Scr
open Go.Proofs.YtceaoadlhdgnmaaGreatDoor.Row
def sarr (s : S) (x y z : Value) : Array Value := #[.int .i64 s.main.rows, .int .i64 s.main.cols, x, .int .i64 s.other.rows, .int .i64 s.other.cols, y, .bool s.swapped, .int .i64 s.cur.row, .int .i64 s.cur.col, .bool s.cur.wrap, .int .i64 s.cur.a.fg, .int .i64 s.cur.a.bg, .int .i64 s.cur.a.flags, .int .i64 s.cur.g0, .int .i64 s.cur.g1, .int .i64 s.cur.shift, .bool s.cur.origin, .int .i64 s.saved.row, .int .i64 s.saved.col, .bool s.saved.wrap, .int .i64 s.saved.a.fg, .int .i64 s.saved.a.bg, .int .i64 s.saved.a.flags, .int .i64 s.saved.g0, .int .i64 s.saved.g1, .int .i64 s.saved.shift, .bool s.saved.origin, .int .i64 s.too.row, .int .i64 s.too.col, .bool s.too.wrap, .int .i64 s.too.a.fg, .int .i64 s.too.a.bg, .int .i64 s.too.a.flags, .int .i64 s.too.g0, .int .i64 s.too.g1, .int .i64 s.too.shift, .bool s.too.origin, .int .i64 s.top, .int .i64 s.bottom, z, .int .i64 s.modes, .string ⟨s.title.toArray⟩, .int .i64 s.last]
abbrev sv (s : S) (x y z : Value) : Value := .agg (sarr s x y z)
abbrev curV (k : Cur) : Value := .agg #[.int .i64 k.row, .int .i64 k.col, .bool k.wrap, .int .i64 k.a.fg, .int .i64 k.a.bg, .int .i64 k.a.flags, .int .i64 k.g0, .int .i64 k.g1, .int .i64 k.shift, .bool k.origin]
abbrev gridV (G : Gr) (x : Value) : Value := .agg #[.int .i64 G.rows, .int .i64 G.cols, x]
section
variable (s : S) (x y z : Value)
@[go_sem] theorem sarr_size : (sarr s x y z).size = 43 := rfl
@[go_sem] theorem sarr_0 : (sarr s x y z)[0]? = some (.int .i64 s.main.rows) := rfl
@[go_sem] theorem sarr_1 : (sarr s x y z)[1]? = some (.int .i64 s.main.cols) := rfl
@[go_sem] theorem sarr_2 : (sarr s x y z)[2]? = some (x) := rfl
@[go_sem] theorem sarr_3 : (sarr s x y z)[3]? = some (.int .i64 s.other.rows) := rfl
@[go_sem] theorem sarr_4 : (sarr s x y z)[4]? = some (.int .i64 s.other.cols) := rfl
@[go_sem] theorem sarr_5 : (sarr s x y z)[5]? = some (y) := rfl
@[go_sem] theorem sarr_6 : (sarr s x y z)[6]? = some (.bool s.swapped) := rfl
@[go_sem] theorem sarr_7 : (sarr s x y z)[7]? = some (.int .i64 s.cur.row) := rfl
@[go_sem] theorem sarr_8 : (sarr s x y z)[8]? = some (.int .i64 s.cur.col) := rfl
@[go_sem] theorem sarr_9 : (sarr s x y z)[9]? = some (.bool s.cur.wrap) := rfl
@[go_sem] theorem sarr_10 : (sarr s x y z)[10]? = some (.int .i64 s.cur.a.fg) := rfl
@[go_sem] theorem sarr_11 : (sarr s x y z)[11]? = some (.int .i64 s.cur.a.bg) := rfl
@[go_sem] theorem sarr_12 : (sarr s x y z)[12]? = some (.int .i64 s.cur.a.flags) := rfl
@[go_sem] theorem sarr_13 : (sarr s x y z)[13]? = some (.int .i64 s.cur.g0) := rfl
@[go_sem] theorem sarr_14 : (sarr s x y z)[14]? = some (.int .i64 s.cur.g1) := rfl
@[go_sem] theorem sarr_15 : (sarr s x y z)[15]? = some (.int .i64 s.cur.shift) := rfl
@[go_sem] theorem sarr_16 : (sarr s x y z)[16]? = some (.bool s.cur.origin) := rfl
@[go_sem] theorem sarr_17 : (sarr s x y z)[17]? = some (.int .i64 s.saved.row) := rfl
@[go_sem] theorem sarr_18 : (sarr s x y z)[18]? = some (.int .i64 s.saved.col) := rfl
@[go_sem] theorem sarr_19 : (sarr s x y z)[19]? = some (.bool s.saved.wrap) := rfl
@[go_sem] theorem sarr_20 : (sarr s x y z)[20]? = some (.int .i64 s.saved.a.fg) := rfl
@[go_sem] theorem sarr_21 : (sarr s x y z)[21]? = some (.int .i64 s.saved.a.bg) := rfl
@[go_sem] theorem sarr_22 : (sarr s x y z)[22]? = some (.int .i64 s.saved.a.flags) := rfl
@[go_sem] theorem sarr_23 : (sarr s x y z)[23]? = some (.int .i64 s.saved.g0) := rfl
@[go_sem] theorem sarr_24 : (sarr s x y z)[24]? = some (.int .i64 s.saved.g1) := rfl
@[go_sem] theorem sarr_25 : (sarr s x y z)[25]? = some (.int .i64 s.saved.shift) := rfl
@[go_sem] theorem sarr_26 : (sarr s x y z)[26]? = some (.bool s.saved.origin) := rfl
@[go_sem] theorem sarr_27 : (sarr s x y z)[27]? = some (.int .i64 s.too.row) := rfl
@[go_sem] theorem sarr_28 : (sarr s x y z)[28]? = some (.int .i64 s.too.col) := rfl
@[go_sem] theorem sarr_29 : (sarr s x y z)[29]? = some (.bool s.too.wrap) := rfl
@[go_sem] theorem sarr_30 : (sarr s x y z)[30]? = some (.int .i64 s.too.a.fg) := rfl
@[go_sem] theorem sarr_31 : (sarr s x y z)[31]? = some (.int .i64 s.too.a.bg) := rfl
@[go_sem] theorem sarr_32 : (sarr s x y z)[32]? = some (.int .i64 s.too.a.flags) := rfl
@[go_sem] theorem sarr_33 : (sarr s x y z)[33]? = some (.int .i64 s.too.g0) := rfl
@[go_sem] theorem sarr_34 : (sarr s x y z)[34]? = some (.int .i64 s.too.g1) := rfl
@[go_sem] theorem sarr_35 : (sarr s x y z)[35]? = some (.int .i64 s.too.shift) := rfl
@[go_sem] theorem sarr_36 : (sarr s x y z)[36]? = some (.bool s.too.origin) := rfl
@[go_sem] theorem sarr_37 : (sarr s x y z)[37]? = some (.int .i64 s.top) := rfl
@[go_sem] theorem sarr_38 : (sarr s x y z)[38]? = some (.int .i64 s.bottom) := rfl
@[go_sem] theorem sarr_39 : (sarr s x y z)[39]? = some (z) := rfl
@[go_sem] theorem sarr_40 : (sarr s x y z)[40]? = some (.int .i64 s.modes) := rfl
@[go_sem] theorem sarr_41 : (sarr s x y z)[41]? = some (.string ⟨s.title.toArray⟩) := rfl
@[go_sem] theorem sarr_42 : (sarr s x y z)[42]? = some (.int .i64 s.last) := rfl
end
structure In (w : World) (s : S) (x y z : Value) : Prop where
  m : Rm w x s.main.cells
  o : Rm w y s.other.cells
  t : Tab.Bl w z s.tabs
theorem In.kept {w w' : World} {s : S} {x y z : Value} (h : In w s x y z) (hb : Below w.heap.size w w') : In w' s x y z := ⟨h.m.kept hb, h.o.kept hb, h.t.kept hb⟩
structure Own (w : World) (base : Nat) (s : S) (x y z : Value) : Prop where
  m : OwnCs w base x s.main.cells
  o : OwnCs w base y s.other.cells
  t : Tab.OwnB w base z s.tabs
theorem Own.kept {w w' : World} {base : Nat} {s : S} {x y z : Value} (h : Own w base s x y z) (hb : Below w.heap.size w w') : Own w' base s x y z := ⟨h.m.kept hb, h.o.kept hb, h.t.kept hb⟩
theorem Own.in_ {w : World} {base : Nat} {s : S} {x y z : Value} (h : Own w base s x y z) : In w s x y z := ⟨h.m.rm, h.o.rm, h.t.bl⟩
theorem Own.low {w : World} {base b2 : Nat} {s : S} {x y z : Value} (h : Own w base s x y z) (hb : b2 ≤ base) : Own w b2 s x y z := ⟨h.m.low hb, h.o.low hb, h.t.low hb⟩
def SBox (w : World) (b : Nat) (s : S) (x y z : Value) : Prop := w.heap[b]? = some (.cells (sarr s x y z) 36 (0, 0))
theorem SBox.kept {w w' : World} {b : Nat} {s : S} {x y z : Value} (h : SBox w b s x y z) (hb : Below w.heap.size w w') : SBox w' b s x y z := Blk.kept h hb
theorem SBox.new (w : World) (s : S) (x y z : Value) : SBox (w.alloc (.cells (sarr s x y z) 36)) w.heap.size s x y z := heap_alloc_new _ _
theorem SBox.cell {w : World} {b : Nat} {s : S} {x y z : Value} (h : SBox w b s x y z) (j : Nat) : w.cell? ⟨b, j, none⟩ = (sarr s x y z)[j]? := Blk.cell h j
theorem SBox.free {w : World} {b : Nat} {s : S} {x y z : Value} (h : SBox w b s x y z) (j : Nat) : w.frozen? ⟨b, j, none⟩ = false := Blk.free h j
theorem sizeS : (Tryz.prog.info? 36).map (·.size) = some 43 := by kernel_rfl
theorem run_loadFrom (w : World) (b : Nat) (A : Array Value) (t : TypeId) (n : Nat) (hn : A.size = n) (h : w.heap[b]? = some (.cells A t (0, 0))) : (loadCellsFrom ⟨b, 0, none⟩ 0 n #[]).run Tryz.prog w = .ok A w := by
  subst hn
  have := run_loadCells_list (P := Tryz.prog) w ⟨b, 0, none⟩ A.toList (fun j v hv => by
    have hadd : (⟨b, 0, none⟩ : Addr).add j = ⟨b, j, none⟩ := by unfold Addr.add; split <;> simp_all
    rw [hadd, cell_of_row _ _ j A t (0, 0) h]
    simpa using hv)
  simpa [loadCells] using this
theorem SBox.load {w : World} {b : Nat} {s : S} {x y z : Value} (h : SBox w b s x y z) : (loadCellsFrom ⟨b, 0, none⟩ 0 43 #[]).run Tryz.prog w = .ok (sarr s x y z) w := run_loadFrom w b _ _ 43 rfl h
end Scr
end
section
open Go.RowKit
namespace Scr
open Go.Proofs.YtceaoadlhdgnmaaGreatDoor.Row
abbrev nilS : Value := .slice none 0 0
abbrev zarr : Array Value := sarr noS nilS nilS nilS
theorem wp_loadS {w : World} {ops : Array Oper} {rest : List Oper} {o : Oper} {a : Act} {Q : Exit → Act → World → Prop} {x : Operand} (hgd : Region.wanted o (yielded ops a.tmps) = true) (ho : o.op = .load 36 x)
    {b : Nat} {s : S} {x0 y0 z0 : Value} (hx : a.eval x = .pointer (some ⟨b, 0, none⟩)) (h : SBox w b s x0 y0 z0) (k : wpList Tryz.prog ops Q rest (a.put o.dst (.agg (sarr s x0 y0 z0))) w) : wpList Tryz.prog ops Q (o :: rest) a w := by
  refine wpList_step fun K hK => ?_
  rw [if_pos hgd]
  exact wp_load_row 36 x ho b hx _ _ (0, 0) _ h Tryz.underlying36 rfl sizeS (hK _ _ k)
structure Sto (w : World) (b : Nat) (A : Array Value) (w' : World) : Prop where
  box : w'.heap[b]? = some (.cells A 36 (0, 0))
  other : ∀ i, i ≠ b → w'.heap[i]? = w.heap[i]?
  size : w'.heap.size = w.heap.size
  below : ∀ (B : Nat) (u : World), B ≤ b → Below B u w → Below B u w'
theorem wp_storeS {w : World} {ops : Array Oper} {rest : List Oper} {o : Oper} {a : Act} {Q : Exit → Act → World → Prop} {x y : Operand} (hgd : Region.wanted o (yielded ops a.tmps) = true) (ho : o.op = .store 36 x y)
    {b : Nat} {A old : Array Value} (hx : a.eval x = .pointer (some ⟨b, 0, none⟩)) (hy : a.eval y = .agg A) (hA : A.size = 43) (hA1 : A.all (·.oneCell') = true) (hg : w.heap[b]? = some (.cells old 36 (0, 0))) (hold : old.size = 43)
    (k : ∀ w', Sto w b A w' → wpList Tryz.prog ops Q rest (a.put o.dst undef) w') : wpList Tryz.prog ops Q (o :: rest) a w := by
  refine wpList_step fun K hK => ?_
  rw [if_pos hgd]
  refine wp_store_row 36 x y ho b A hx hy _ old hg (by rw [hA]; exact sizeS) (by rw [hA, hold]) hA1 (hK _ _ (k _ ⟨setRow_heap _ _ _ _ _ _ hg, fun i hi => setRow_other _ _ _ _ hi, size_setRow _ _ _, fun B u hB h => below_setRow h hB _⟩))
theorem wp_allocS {w : World} {ops : Array Oper} {rest : List Oper} {o : Oper} {a : Act} {Q : Exit → Act → World → Prop} (hgd : Region.wanted o (yielded ops a.tmps) = true) (ho : o.op = .alloc 36) {n : Nat} (hn : w.heap.size = n)
    (k : wpList Tryz.prog ops Q rest (a.put o.dst (.pointer (some ⟨n, 0, none⟩))) (w.alloc (.cells zarr 36))) : wpList Tryz.prog ops Q (o :: rest) a w := by
  subst hn
  refine wpList_step fun K hK => ?_
  rw [if_pos hgd]
  unfold Oper.wp
  simp only [ho, execOp, Sem.run_bind]
  exact hK _ _ k
theorem wp_allocS1 {w : World} {o1 : Obj} {ops : Array Oper} {rest : List Oper} {o : Oper} {a : Act} {Q : Exit → Act → World → Prop} (hgd : Region.wanted o (yielded ops a.tmps) = true) (ho : o.op = .alloc 36)
    (k : wpList Tryz.prog ops Q rest (a.put o.dst (.pointer (some ⟨w.heap.size + 1, 0, none⟩))) ((w.alloc o1).alloc (.cells zarr 36))) : wpList Tryz.prog ops Q (o :: rest) a (w.alloc o1) :=
  wp_allocS hgd ho (by simp) k
theorem wp_allocS2 {w : World} {o1 o2 : Obj} {ops : Array Oper} {rest : List Oper} {o : Oper} {a : Act} {Q : Exit → Act → World → Prop} (hgd : Region.wanted o (yielded ops a.tmps) = true) (ho : o.op = .alloc 36)
    (k : wpList Tryz.prog ops Q rest (a.put o.dst (.pointer (some ⟨w.heap.size + 2, 0, none⟩))) (((w.alloc o1).alloc o2).alloc (.cells zarr 36))) : wpList Tryz.prog ops Q (o :: rest) a ((w.alloc o1).alloc o2) :=
  wp_allocS hgd ho (by simp) k
theorem slice_one {w : World} {x : Value} {l : List Cl} (h : Rm w x l) : x.oneCell' = true := by obtain ⟨A, c, rfl, _⟩ := h.2; rfl
theorem bools_one {w : World} {x : Value} {l : List Bool} (h : Tab.Bl w x l) : x.oneCell' = true := by obtain ⟨A, c, rfl, _⟩ := h.room; rfl
theorem sarr_one {s : S} {x y z : Value} (hx : x.oneCell' = true) (hy : y.oneCell' = true) (hz : z.oneCell' = true) : (sarr s x y z).all (·.oneCell') = true := by
  simp only [sarr, List.all_toArray, List.all_cons, List.all_nil, hx, hy, hz, Bool.and_true]
  rfl
theorem In.one {w : World} {s : S} {x y z : Value} (h : In w s x y z) : (sarr s x y z).all (·.oneCell') = true := sarr_one (slice_one h.m) (slice_one h.o) (bools_one h.t)
theorem ret1S {fn : Func} {p : Tmp} (h : fn.results = #[.cell p 36]) {tmps : Array Value} {w : World} {b : Nat} {s : S} {x y z : Value} (hp : tmps.getD p undef = .pointer (some ⟨b, 0, none⟩)) (hb : SBox w b s x y z) :
    (results fn tmps).run Tryz.prog w = .ok (sv s x y z) w := results_cell_row h tmps w b _ _ (0, 0) _ hp hb Tryz.underlying36 rfl sizeS
theorem ret2S {fn : Func} {p q : Tmp} (h : fn.results = #[.cell p 36, .tmp q]) {tmps : Array Value} {w : World} {b : Nat} {s : S} {x y z v : Value} (hp : tmps.getD p undef = .pointer (some ⟨b, 0, none⟩)) (hb : SBox w b s x y z) (hq : tmps.getD q undef = v) :
    (results fn tmps).run Tryz.prog w = .ok (.tuple #[sv s x y z, v]) w := by
  have hp' : tmps[p]?.getD undef = .pointer (some ⟨b, 0, none⟩) := by simpa using hp
  have hq' : tmps[q]?.getD undef = v := by simpa using hq
  simp [results, h, hp', hq', asAddr, run_loadVar_row w b _ _ _ (0, 0) _ hb Tryz.underlying36 rfl sizeS]
theorem SBox.putMain {w : World} {b : Nat} {s : S} {x y z : Value} (h : SBox w b s x y z) (R C : Int) (l : List Cl) (v : Value) : SBox (gput w b R C v) b { s with main := ⟨R, C, l⟩ } v y z := Blk.set (Blk.set (Blk.set h 0 _) 1 _) 2 _
def oput (w : World) (g : Nat) (R C : Int) (v : Value) : World := ((w.setCell ⟨g, 3, none⟩ (.int .i64 R)).setCell ⟨g, 4, none⟩ (.int .i64 C)).setCell ⟨g, 5, none⟩ v
theorem SBox.putOther {w : World} {b : Nat} {s : S} {x y z : Value} (h : SBox w b s x y z) (R C : Int) (l : List Cl) (v : Value) : SBox (oput w b R C v) b { s with other := ⟨R, C, l⟩ } x v z := Blk.set (Blk.set (Blk.set h 3 _) 4 _) 5 _
theorem SBox.putTabs {w : World} {b : Nat} {s : S} {x y z : Value} (h : SBox w b s x y z) (l : List Bool) (v : Value) : SBox (w.setCell ⟨b, 39, none⟩ v) b { s with tabs := l } x y v := Blk.set h 39 _
theorem oput_other {w : World} {g b : Nat} {o : Obj} (h : w.heap[b]? = some o) (hn : b ≠ g) (R C : Int) (v : Value) : (oput w g R C v).heap[b]? = some o := Blk.other (Blk.other (Blk.other h hn _ _) hn _ _) hn _ _
theorem oput_own {w : World} {base g : Nat} {x : Value} {l : List Cl} (h : OwnCs w base x l) (hg : g < base) (R C : Int) (v : Value) : OwnCs (oput w g R C v) base x l := ((h.set hg _ _).set hg _ _).set hg _ _
theorem oput_below {B g : Nat} {a w : World} (h : Below B a w) (hB : B ≤ g) (R C : Int) (v : Value) : Below B a (oput w g R C v) := ((h.setCell hB _).setCell hB _).setCell hB _
theorem ownB_set {w : World} {base g : Nat} {v : Value} {l : List Bool} (h : Tab.OwnB w base v l) (hg : g < base) (j : Nat) (u : Value) : Tab.OwnB (w.setCell ⟨g, j, none⟩ u) base v l := by
  refine ⟨h.1, ?_⟩
  rcases h.2 with h0 | ⟨b, cap, cur, rfl, hb, hc, rest⟩
  · exact .inl h0
  · exact .inr ⟨b, cap, cur, rfl, hb, Blk.other hc (by omega) j u, rest⟩
theorem Sto.cs {w w' : World} {b base : Nat} {A : Array Value} {v : Value} {l : List Cl} (h : Sto w b A w') (ho : OwnCs w base v l) (hb : b < base) : OwnCs w' base v l := by
  refine ⟨ho.1, ?_⟩
  rcases ho.2 with h0 | ⟨g, cap, cur, rfl, hg, hc, rest⟩
  · exact .inl h0
  · exact .inr ⟨g, cap, cur, rfl, hg, (h.other g (by omega)).trans hc, rest⟩
theorem Sto.bs {w w' : World} {b base : Nat} {A : Array Value} {v : Value} {l : List Bool} (h : Sto w b A w') (ho : Tab.OwnB w base v l) (hb : b < base) : Tab.OwnB w' base v l := by
  refine ⟨ho.1, ?_⟩
  rcases ho.2 with h0 | ⟨g, cap, cur, rfl, hg, hc, rest⟩
  · exact .inl h0
  · exact .inr ⟨g, cap, cur, rfl, hg, (h.other g (by omega)).trans hc, rest⟩
theorem Sto.own {w w' : World} {b base : Nat} {A : Array Value} {s : S} {x y z : Value} (h : Sto w b A w') (ho : Own w base s x y z) (hb : b < base) : Own w' base s x y z := ⟨h.cs ho.m hb, h.cs ho.o hb, h.bs ho.t hb⟩
end Scr
end
section
open Go.RowKit
namespace Scr
open Go.Proofs.YtceaoadlhdgnmaaGreatDoor.Row
def partVals (s : S) (x y z : Value) : Array Value :=
  #[.iface 29 (gridV s.main x), .iface 29 (gridV s.other y), .iface 33 (curV s.cur), .iface 33 (curV s.saved), .iface 33 (curV s.too),
    .iface 170 (.agg #[.int .i64 s.top, .int .i64 s.bottom]), .iface 171 z, .iface 172 (.int .i64 s.modes), .iface 173 (.string ⟨s.title.toArray⟩), .iface 174 (.int .i64 s.last)]
set_option maxHeartbeats 1600000 in
theorem parts_any (s : S) (x y z : Value) (w : World) :
    Calls Tryz.prog 121 #[sv s x y z] w fun e w' => ∃ g, e = .returned (.slice (some ⟨g, 0, none⟩) 10 10) ∧ w'.heap[g]? = some (.cells (partVals s x y z) 133 (0, 0)) ∧ Below w.heap.size w w' := by
  have HB : Hid (Below w.heap.size w ((w.alloc (.cells (sarr s x y z) 36)).alloc (.cells (partVals s x y z) 133))) := Lib.hid (((Below.refl _ _).alloc (Nat.le_refl _) _).alloc (by simp) _)
  have HH : Hid (((w.alloc (.cells (sarr s x y z) 36)).alloc (.cells (partVals s x y z) 133)).heap[w.heap.size + 1]? = some (.cells (partVals s x y z) 133 (0, 0))) := Lib.hid (heap_alloc2_new _ _ _)
  go_enter Tryz.func121, Tryz.ntmps121
  go_wp2_with fail
  go_ret
  exact ⟨_, rfl, HH.out, HB.out⟩
@[go_sem] theorem s_Grid_Grid (v : Value) (w : World) : (Instr.typeAssert (.iface 29 v) 133 29 true).run Tryz.prog w = .ok (.tuple #[v, .bool true]) w := by kernel_rfl
@[go_sem] theorem s_Cursor_Grid (v : Value) (w : World) : (Instr.typeAssert (.iface 33 v) 133 29 true).run Tryz.prog w = .ok (.tuple #[.agg #[.int .i64 0, .int .i64 0, .slice none 0 0], .bool false]) w := by kernel_rfl
@[go_sem] theorem s_Cursor_Cursor (v : Value) (w : World) : (Instr.typeAssert (.iface 33 v) 133 33 true).run Tryz.prog w = .ok (.tuple #[v, .bool true]) w := by kernel_rfl
@[go_sem] theorem s_margins_Grid (v : Value) (w : World) : (Instr.typeAssert (.iface 170 v) 133 29 true).run Tryz.prog w = .ok (.tuple #[.agg #[.int .i64 0, .int .i64 0, .slice none 0 0], .bool false]) w := by kernel_rfl
@[go_sem] theorem s_margins_Cursor (v : Value) (w : World) : (Instr.typeAssert (.iface 170 v) 133 33 true).run Tryz.prog w = .ok (.tuple #[.agg #[.int .i64 0, .int .i64 0, .bool false, .int .i64 0, .int .i64 0, .int .i64 0, .int .i64 0, .int .i64 0, .int .i64 0, .bool false], .bool false]) w := by kernel_rfl
@[go_sem] theorem s_margins_margins (v : Value) (w : World) : (Instr.typeAssert (.iface 170 v) 133 170 true).run Tryz.prog w = .ok (.tuple #[v, .bool true]) w := by kernel_rfl
@[go_sem] theorem s_stops_Grid (v : Value) (w : World) : (Instr.typeAssert (.iface 171 v) 133 29 true).run Tryz.prog w = .ok (.tuple #[.agg #[.int .i64 0, .int .i64 0, .slice none 0 0], .bool false]) w := by kernel_rfl
@[go_sem] theorem s_stops_Cursor (v : Value) (w : World) : (Instr.typeAssert (.iface 171 v) 133 33 true).run Tryz.prog w = .ok (.tuple #[.agg #[.int .i64 0, .int .i64 0, .bool false, .int .i64 0, .int .i64 0, .int .i64 0, .int .i64 0, .int .i64 0, .int .i64 0, .bool false], .bool false]) w := by kernel_rfl
@[go_sem] theorem s_stops_margins (v : Value) (w : World) : (Instr.typeAssert (.iface 171 v) 133 170 true).run Tryz.prog w = .ok (.tuple #[.agg #[.int .i64 0, .int .i64 0], .bool false]) w := by kernel_rfl
@[go_sem] theorem s_stops_stops (v : Value) (w : World) : (Instr.typeAssert (.iface 171 v) 133 171 true).run Tryz.prog w = .ok (.tuple #[v, .bool true]) w := by kernel_rfl
@[go_sem] theorem s_modes_Grid (v : Value) (w : World) : (Instr.typeAssert (.iface 172 v) 133 29 true).run Tryz.prog w = .ok (.tuple #[.agg #[.int .i64 0, .int .i64 0, .slice none 0 0], .bool false]) w := by kernel_rfl
@[go_sem] theorem s_modes_Cursor (v : Value) (w : World) : (Instr.typeAssert (.iface 172 v) 133 33 true).run Tryz.prog w = .ok (.tuple #[.agg #[.int .i64 0, .int .i64 0, .bool false, .int .i64 0, .int .i64 0, .int .i64 0, .int .i64 0, .int .i64 0, .int .i64 0, .bool false], .bool false]) w := by kernel_rfl
@[go_sem] theorem s_modes_margins (v : Value) (w : World) : (Instr.typeAssert (.iface 172 v) 133 170 true).run Tryz.prog w = .ok (.tuple #[.agg #[.int .i64 0, .int .i64 0], .bool false]) w := by kernel_rfl
@[go_sem] theorem s_modes_stops (v : Value) (w : World) : (Instr.typeAssert (.iface 172 v) 133 171 true).run Tryz.prog w = .ok (.tuple #[.slice none 0 0, .bool false]) w := by kernel_rfl
@[go_sem] theorem s_modes_modes (v : Value) (w : World) : (Instr.typeAssert (.iface 172 v) 133 172 true).run Tryz.prog w = .ok (.tuple #[v, .bool true]) w := by kernel_rfl
@[go_sem] theorem s_title_Grid (v : Value) (w : World) : (Instr.typeAssert (.iface 173 v) 133 29 true).run Tryz.prog w = .ok (.tuple #[.agg #[.int .i64 0, .int .i64 0, .slice none 0 0], .bool false]) w := by kernel_rfl
@[go_sem] theorem s_title_Cursor (v : Value) (w : World) : (Instr.typeAssert (.iface 173 v) 133 33 true).run Tryz.prog w = .ok (.tuple #[.agg #[.int .i64 0, .int .i64 0, .bool false, .int .i64 0, .int .i64 0, .int .i64 0, .int .i64 0, .int .i64 0, .int .i64 0, .bool false], .bool false]) w := by kernel_rfl
@[go_sem] theorem s_title_margins (v : Value) (w : World) : (Instr.typeAssert (.iface 173 v) 133 170 true).run Tryz.prog w = .ok (.tuple #[.agg #[.int .i64 0, .int .i64 0], .bool false]) w := by kernel_rfl
@[go_sem] theorem s_title_stops (v : Value) (w : World) : (Instr.typeAssert (.iface 173 v) 133 171 true).run Tryz.prog w = .ok (.tuple #[.slice none 0 0, .bool false]) w := by kernel_rfl
@[go_sem] theorem s_title_modes (v : Value) (w : World) : (Instr.typeAssert (.iface 173 v) 133 172 true).run Tryz.prog w = .ok (.tuple #[.int .i64 0, .bool false]) w := by kernel_rfl
@[go_sem] theorem s_title_title (v : Value) (w : World) : (Instr.typeAssert (.iface 173 v) 133 173 true).run Tryz.prog w = .ok (.tuple #[v, .bool true]) w := by kernel_rfl
@[go_sem] theorem s_last_Grid (v : Value) (w : World) : (Instr.typeAssert (.iface 174 v) 133 29 true).run Tryz.prog w = .ok (.tuple #[.agg #[.int .i64 0, .int .i64 0, .slice none 0 0], .bool false]) w := by kernel_rfl
@[go_sem] theorem s_last_Cursor (v : Value) (w : World) : (Instr.typeAssert (.iface 174 v) 133 33 true).run Tryz.prog w = .ok (.tuple #[.agg #[.int .i64 0, .int .i64 0, .bool false, .int .i64 0, .int .i64 0, .int .i64 0, .int .i64 0, .int .i64 0, .int .i64 0, .bool false], .bool false]) w := by kernel_rfl
@[go_sem] theorem s_last_margins (v : Value) (w : World) : (Instr.typeAssert (.iface 174 v) 133 170 true).run Tryz.prog w = .ok (.tuple #[.agg #[.int .i64 0, .int .i64 0], .bool false]) w := by kernel_rfl
@[go_sem] theorem s_last_stops (v : Value) (w : World) : (Instr.typeAssert (.iface 174 v) 133 171 true).run Tryz.prog w = .ok (.tuple #[.slice none 0 0, .bool false]) w := by kernel_rfl
@[go_sem] theorem s_last_modes (v : Value) (w : World) : (Instr.typeAssert (.iface 174 v) 133 172 true).run Tryz.prog w = .ok (.tuple #[.int .i64 0, .bool false]) w := by kernel_rfl
@[go_sem] theorem s_last_title (v : Value) (w : World) : (Instr.typeAssert (.iface 174 v) 133 173 true).run Tryz.prog w = .ok (.tuple #[.string ⟨#[]⟩, .bool false]) w := by kernel_rfl
@[go_sem] theorem s_must (v : Value) (w : World) : (Instr.typeAssert (.iface 174 v) 133 174 false).run Tryz.prog w = .ok v w := by kernel_rfl
end Scr
end
end Go.Proofs.YtceaoadlhdgnmaaGreatDoor
