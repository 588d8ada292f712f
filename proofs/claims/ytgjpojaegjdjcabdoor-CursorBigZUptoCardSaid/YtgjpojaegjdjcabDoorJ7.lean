/- Joined texts: GrdLib, GrdRep, GrdLaid, GrdMoveP, GrdAsk, GrdHeavy, GrdFit, GrdHeld. -/
import Derived.Test.YtgjpojaegjdjcabDoorJ1
import Derived.Test.YtgjpojaegjdjcabDoorJ2
import Derived.Test.YtgjpojaegjdjcabDoorJ4
import Derived.Test.YtgjpojaegjdjcabDoorJ5
import Derived.Deep.RegionLaw
section
/- The library's Grow, Concat and Repeat at lines of a grid; its Concat at rows. -/
namespace Go.Proofs.YtgjpojaegjdjcabDoor
set_option maxRecDepth 100000
open Go.RowKit
namespace Row

def lensToL (ls : List (List Ln)) (k : Nat) : Nat := (ls.take k).flatten.length
theorem take_succ_lsL {ls : List (List Ln)} {k : Nat} (h : k < ls.length) : (ls.take (k + 1)).flatten = (ls.take k).flatten ++ ls.getD k [] := by
  rw [List.take_succ_eq_append_getElem h, List.flatten_append]; simp [List.getD, h]
theorem lensToL_le (ls : List (List Ln)) (k : Nat) : lensToL ls k ≤ ls.flatten.length := by
  unfold lensToL
  have h : ls.flatten = (ls.take k).flatten ++ (ls.drop k).flatten := by rw [← List.flatten_append, List.take_append_drop]
  rw [h, List.length_append]; omega
end Row
end Go.Proofs.YtgjpojaegjdjcabDoor
end
section
/- The library's Repeat of one line. -/
namespace Go.Proofs.YtgjpojaegjdjcabDoor
set_option maxRecDepth 100000
open Go.RowKit
namespace Row

theorem madeL_zero (n : Nat) : (madeCells Value.nilIface.cells (n * 1)).toList = List.replicate n Value.nilIface := by
  apply List.ext_getElem?
  intro j
  by_cases hj : j < n
  · simp only [madeCells, Value.cells]
    rw [Array.getElem?_toList, Array.getElem?_map, Array.getElem?_range]
    simp [hj, Nat.mod_one]
  · rw [List.getElem?_eq_none (by rw [Array.length_toList, size_madeCells]; omega), List.getElem?_eq_none (by rw [List.length_replicate]; omega)]
theorem repL_step {n k m : Nat} (c z : Value) (hm : k + m ≤ n) :
    (List.replicate k c ++ List.replicate (n - k) z).take k ++ (List.replicate m c ++ (List.replicate k c ++ List.replicate (n - k) z).drop (k + m)) = List.replicate (k + m) c ++ List.replicate (n - (k + m)) z := by
  have hl : (List.replicate k c).length = k := List.length_replicate
  rw [List.take_append_of_le_length (by rw [hl]; exact Nat.le_refl _), List.take_of_length_le (by rw [hl]; exact Nat.le_refl _), List.drop_append, List.drop_of_length_le (by rw [hl]; omega), List.nil_append, hl, List.drop_replicate, ← List.append_assoc, List.replicate_append_replicate]
  congr 2
  omega
end Row
end Go.Proofs.YtgjpojaegjdjcabDoor
end
section
/- The developers' lines laid into a grid: empty lines, the cells of a line, the grid of lines. -/
namespace Go.Proofs.YtgjpojaegjdjcabDoor
set_option maxRecDepth 100000
open Go.RowKit
namespace Row

/-- append of cells, as one step of a region that draws. -/
theorem step_append_cs {w : World} {ops : Array Oper} {o : Oper} {a : Act} {K : Act → World → Prop} {Q : Exit → Act → World → Prop} {E : Prop} {s x : Operand} (hgd : o.guard = none)
    (ho : o.op = .call { callee := .builtin .append, args := #[s, x], argTypes := #[28, 28] }) (base : Nat) (v y : Value) (l r : List Cl) (hs : a.eval s = v) (hown : OwnCs w base v l)
    (hy : a.eval x = y) (hx : Cs w y r) (hl : l.length + r.length ≤ 1000000000) (hbase : base ≤ w.heap.size)
    (hK : ∀ v' w', OwnCs w' base v' (l ++ r) → w.grownBy w' v.ownBlock → (v'.ownBlock = v.ownBlock ∨ v'.ownBlock = some w.heap.size) → K (a.put o.dst v') w') :
    if Region.wanted o (yielded ops a.tmps) = true then Oper.wp Tryd.prog o a w K Q else E := by
  have hw : Region.wanted o (yielded ops a.tmps) = true := by simp [Region.wanted, hgd]
  rw [if_pos hw]
  obtain ⟨v', w', hr, h2, h3, h4⟩ := run_append_cs (ty := o.type) hown hx hl hbase
  unfold Oper.wp execOp
  simp only [ho, resolve, invoke, builtin, Sem.run_bind, Sem.run_pure, Result.andThen_ok, List.map_toArray, List.map_cons, List.map_nil, hs, hy, hr]
  exact hK _ _ h2 h3 h4
/-- A box of another type is not the own cells' block. -/
theorem OwnCs.not_box {w : World} {base b : Nat} {v : Value} {l : List Cl} {cs : Array Value} {T : TypeId} (h : OwnCs w base v l) (hb : w.heap[b]? = some (.cells cs T (0, 0))) (hT : T ≠ 81) : some b ≠ v.ownBlock := by
  rcases h.2 with ⟨rfl, _⟩ | ⟨g, cap, cur, rfl, _, hg, _⟩
  · simp [Value.ownBlock]
  · intro e
    obtain rfl : b = g := by simpa [Value.ownBlock] using e
    rw [hb] at hg
    injection hg with hg
    injection hg with _ hg
    exact hT hg
theorem OwnCs.setBox {w : World} {base b : Nat} {v : Value} {l : List Cl} {cs : Array Value} {T : TypeId} (h : OwnCs w base v l) (hb : w.heap[b]? = some (.cells cs T (0, 0))) (hT : T ≠ 81) (j : Nat) (u : Value) : OwnCs (w.setCell ⟨b, j, none⟩ u) base v l := by
  have hn := h.not_box hb hT
  refine ⟨h.1, ?_⟩
  rcases h.2 with h0 | ⟨g, cap, cur, rfl, hg, hc, rest⟩
  · exact .inl h0
  · exact .inr ⟨g, cap, cur, rfl, hg, Blk.other hc (fun e => hn (by rw [e]; rfl)) j u, rest⟩
/-- A box is kept by what grows an own row of another type. -/
theorem box_grown {w w' : World} {row : Option Nat} {b : Nat} {o : Obj} (hb : w.heap[b]? = some o) (hg : w.grownBy w' row) (hn : some b ≠ row) : w'.heap[b]? = some o := (hg.block b (Blk.lt hb) hn).trans hb
def rowsOfL (c : Nat) (ls : List Ln) : List (List Cl) := ls.map (lrow c)
theorem rows_small {w : World} {c : Nat} {ls : List Ln} (h : LnsOk w c ls) : (rowsOfL c ls).flatten.length = ls.length * c := by
  have : Even c (rowsOfL c ls) := fun r hr => by
    obtain ⟨x, hx, rfl⟩ := List.mem_map.1 hr
    exact lrow_len (h x hx)
  rw [even_length this]; unfold rowsOfL; rw [List.length_map]
theorem rows_succ {c k : Nat} {ls : List Ln} (h : k < ls.length) : (rowsOfL c (ls.take (k + 1))).flatten = (rowsOfL c (ls.take k)).flatten ++ lrow c (ls.getD k default) := by
  unfold rowsOfL
  rw [List.take_succ_eq_append_getElem h, List.map_append, List.flatten_append]
  simp [List.getD, h]

end Row
end Go.Proofs.YtgjpojaegjdjcabDoor
end
section
/- Rows moved, as lists: what is joined of parts is what the page's moves are; down undoes up. No program stands in this text. -/
namespace Go.Proofs.YtgjpojaegjdjcabDoor
namespace Row

theorem rowOf_append_left {a b : List (List Cl)} {i : Nat} (h : i < a.length) : rowOf (a ++ b) i = rowOf a i := by
  simp [rowOf, List.getElem?_append_left h]
theorem rowOf_append_right {a b : List (List Cl)} {i : Nat} (h : a.length ≤ i) : rowOf (a ++ b) i = rowOf b (i - a.length) := by
  simp [rowOf, List.getElem?_append_right h]
theorem rowOf_take {a : List (List Cl)} {i k : Nat} (h : i < k) : rowOf (a.take k) i = rowOf a i := by
  simp [rowOf, h]
theorem rowOf_drop (a : List (List Cl)) (k i : Nat) : rowOf (a.drop k) i = rowOf a (k + i) := by
  simp [rowOf]
theorem rowOf_rep {n i : Nat} (r : List Cl) (h : i < n) : rowOf (List.replicate n r) i = r := by
  simp [rowOf, h]
theorem moved_length (rs : List (List Cl)) (top bot : Nat) (n : Int) (c : Nat) (a : Look) : (moved rs top bot n c a).length = rs.length := by
  unfold moved; rw [List.length_map, List.length_range]
theorem rowOf_moved {rs : List (List Cl)} {top bot : Nat} {n : Int} {c : Nat} {a : Look} {i : Nat} (h : i < rs.length) : rowOf (moved rs top bot n c a) i = movedRow rs top bot n c a i := by
  unfold moved; rw [rowOf_map _ h]
def upRows (rs : List (List Cl)) (top bot m c : Nat) (a : Look) : List (List Cl) :=
  rs.take top ++ ((rs.drop (top + m)).take (bot + 1 - (top + m)) ++ (List.replicate m (blankRow c a) ++ rs.drop (bot + 1)))
def downRows (rs : List (List Cl)) (top bot m c : Nat) (a : Look) : List (List Cl) :=
  rs.take top ++ (List.replicate m (blankRow c a) ++ ((rs.drop top).take (bot + 1 - m - top) ++ rs.drop (bot + 1)))
theorem up_rows {rs : List (List Cl)} {top bot m n c : Nat} {a : Look} (ht : top ≤ bot) (hb : bot < rs.length) (hm : m = min n (bot + 1 - top)) : upRows rs top bot m c a = moved rs top bot n c a := by
  have l1 : (rs.take top).length = top := by rw [List.length_take]; omega
  have l2 : ((rs.drop (top + m)).take (bot + 1 - (top + m))).length = bot + 1 - (top + m) := by rw [List.length_take, List.length_drop]; omega
  have l3 : (List.replicate m (blankRow c a)).length = m := List.length_replicate
  have l4 : (rs.drop (bot + 1)).length = rs.length - (bot + 1) := List.length_drop
  have hl : (upRows rs top bot m c a).length = rs.length := by unfold upRows; simp only [List.length_append, l1, l2, l3, l4]; omega
  refine rows_ext (by rw [hl, moved_length]) fun i hi => ?_
  rw [hl] at hi
  rw [rowOf_moved hi]
  unfold upRows movedRow
  by_cases h1 : i < top
  · rw [rowOf_append_left (by omega), rowOf_take h1, if_neg (by omega)]
  · rw [rowOf_append_right (by omega), l1]
    by_cases h2 : i ≤ bot
    · rw [if_pos (by omega)]
      by_cases h3 : i + m ≤ bot
      · rw [rowOf_append_left (by omega), rowOf_take (by omega), rowOf_drop, if_neg (by omega)]
        congr 1; omega
      · rw [rowOf_append_right (by omega), l2, rowOf_append_left (by omega), rowOf_rep _ (by omega), if_pos (by omega)]
    · rw [if_neg (by omega), rowOf_append_right (by omega), l2, rowOf_append_right (by omega), l3, rowOf_drop]
      congr 1; omega
theorem down_rows {rs : List (List Cl)} {top bot m n c : Nat} {a : Look} (ht : top ≤ bot) (hb : bot < rs.length) (hm : m = min n (bot + 1 - top)) : downRows rs top bot m c a = moved rs top bot (-(n : Int)) c a := by
  have l1 : (rs.take top).length = top := by rw [List.length_take]; omega
  have l2 : ((rs.drop top).take (bot + 1 - m - top)).length = bot + 1 - m - top := by rw [List.length_take, List.length_drop]; omega
  have l3 : (List.replicate m (blankRow c a)).length = m := List.length_replicate
  have l4 : (rs.drop (bot + 1)).length = rs.length - (bot + 1) := List.length_drop
  have hl : (downRows rs top bot m c a).length = rs.length := by unfold downRows; simp only [List.length_append, l1, l2, l3, l4]; omega
  refine rows_ext (by rw [hl, moved_length]) fun i hi => ?_
  rw [hl] at hi
  rw [rowOf_moved hi]
  unfold downRows movedRow
  by_cases h1 : i < top
  · rw [rowOf_append_left (by omega), rowOf_take h1, if_neg (by omega)]
  · rw [rowOf_append_right (by omega), l1]
    by_cases h2 : i ≤ bot
    · rw [if_pos (by omega)]
      by_cases h3 : i < top + m
      · rw [rowOf_append_left (by omega), rowOf_rep _ (by omega), if_pos (by omega)]
      · rw [rowOf_append_right (by omega), l3, rowOf_append_left (by omega), rowOf_take (by omega), rowOf_drop, if_neg (by omega)]
        congr 1; omega
    · rw [if_neg (by omega), rowOf_append_right (by omega), l3, rowOf_append_right (by omega), l2, rowOf_drop]
      congr 1; omega
/-- Moved up by n and down again, what lies n below the top is where it was. -/
theorem back_rows {rs : List (List Cl)} {n c : Nat} {a : Look} {i : Nat} (hn : n ≤ i) (hi : i < rs.length) :
    rowOf (moved (moved rs 0 (rs.length - 1) n c a) 0 (rs.length - 1) (-(n : Int)) c a) i = rowOf rs i := by
  rw [rowOf_moved (by rw [moved_length]; exact hi)]
  unfold movedRow
  rw [if_pos (by omega), if_neg (by omega), rowOf_moved (by omega)]
  unfold movedRow
  rw [if_pos (by omega), if_neg (by omega)]
  congr 1; omega
end Row
end Go.Proofs.YtgjpojaegjdjcabDoor
end
section
/- The laws' argument: a grid (or not) and acts. -/
namespace Go.Proofs.YtgjpojaegjdjcabDoor
set_option maxRecDepth 100000
open Go.ChangeShapes Go.WideShapes Go.RowKit
namespace Row

/-- An act: the row that it bears, as it stands in memory, and as it reads. -/
structure ActG where
  doo : Int
  i : Int
  k : Int
  n : Int
  a : Look
  v : Value
  r : List Cl
def actVals (t : ActG) : List Value := [.int .i64 t.doo, .int .i64 t.i, .int .i64 t.k, .int .i64 t.n, .int .i64 t.a.fg, .int .i64 t.a.bg, .int .i64 t.a.flags, t.v]
def noAct : ActG := ⟨0, 0, 0, 0, ⟨0, 0, 0⟩, .slice none 0 0, []⟩
/-- Numbers within the machine's bounds. -/
def I64 (n : Int) : Prop := -9223372036854775808 ≤ n ∧ n ≤ 9223372036854775807
def ActFits (t : ActG) : Prop := I64 t.doo ∧ I64 t.i ∧ I64 t.k ∧ I64 t.n
/-- Texts of at most so many bytes. -/
def Texted (bnd : Nat) (l : List Cl) : Prop := l.length ≤ 140737488355328 ∧ ∀ i, i < l.length → (g l i).comb.length ≤ bnd
/-- A slice of acts that reads as a list. -/
def Acts (bnd : Nat) (w : World) (x : Value) (l : List ActG) : Prop := Recs w x 8 l.length (l.map actVals) ∧ ∀ k, k < l.length → Rm w (l.getD k noAct).v (l.getD k noAct).r ∧ Texted bnd (l.getD k noAct).r ∧ ActFits (l.getD k noAct)
theorem Acts.kept {bnd : Nat} {w w' : World} {x : Value} {l : List ActG} (h : Acts bnd w x l) (hb : Below w.heap.size w w') : Acts bnd w' x l := ⟨Recs.kept h.1 hb, fun k hk => ⟨(h.2 k hk).1.kept hb, (h.2 k hk).2⟩⟩
theorem Acts.form {bnd : Nat} {w : World} {x : Value} {l : List ActG} (h : Acts bnd w x l) : ∃ A c, x = .slice A l.length c ∧ ∀ k, k < l.length → ∃ ad, A = some ad ∧ At w (ad.add (k * 8)) (actVals (l.getD k noAct)) := by
  obtain ⟨A, c, rfl, hf⟩ := Recs.form h.1
  refine ⟨A, c, rfl, fun k hk => ?_⟩
  obtain ⟨ad, rfl, ha⟩ := hf k hk
  refine ⟨ad, rfl, ?_⟩
  have e : (l.map actVals).getD k [] = actVals (l.getD k noAct) := by simp [List.getD, hk]
  rw [e] at ha; exact ha

theorem Tryd.cellsCell : Tryd.prog.cellsOf 81 = 6 := by kernel_rfl
theorem Tryd.bytesCell : Tryd.prog.bytesOf 81 = 56 := by kernel_rfl
theorem Tryd.cellsAttr : Tryd.prog.cellsOf 32 = 3 := by kernel_rfl
theorem Tryd.cellsInt : Tryd.prog.cellsOf 3 = 1 := by kernel_rfl
theorem Tryd.cellsStr : Tryd.prog.cellsOf 9 = 1 := by kernel_rfl
theorem Tryd.cellsCells : Tryd.prog.cellsOf 28 = 1 := by kernel_rfl
theorem Tryd.cellsGrid : Tryd.prog.cellsOf 30 = 3 := by kernel_rfl
open RowF
theorem one_int {bnd : Nat} {W : World} {v : Value} (h : Fine bnd Tryd.prog W 3 [v]) : ∃ n, v = .int .i64 n ∧ I64 n := by
  obtain ⟨x, e, hw⟩ := h.int Tryd.underlying3
  exact ⟨x, by simpa using e, i64_bd hw⟩
theorem open_attr {bnd : Nat} {W : World} {cs : List Value} (h : Fine bnd Tryd.prog W 32 cs) : ∃ a : Look, cs = [.int .i64 a.fg, .int .i64 a.bg, .int .i64 a.flags] := by
  have hl := h.len Tryd.underlying32
  rw [Tryd.cellsAttr] at hl
  match cs, hl with
  | [a, b, c], _ =>
    obtain ⟨x, rfl, _⟩ := one_int (h.part Tryd.underlying32 0 rfl rfl rfl Tryd.cellsInt : Fine bnd Tryd.prog W 3 [a])
    obtain ⟨y, rfl, _⟩ := one_int (h.part Tryd.underlying32 1 rfl rfl rfl Tryd.cellsInt : Fine bnd Tryd.prog W 3 [b])
    obtain ⟨z, rfl, _⟩ := one_int (h.part Tryd.underlying32 2 rfl rfl rfl Tryd.cellsInt : Fine bnd Tryd.prog W 3 [c])
    exact ⟨⟨x, y, z⟩, rfl⟩
theorem open_cell {bnd : Nat} {W : World} {cs : List Value} (h : Fine bnd Tryd.prog W 81 cs) : ∃ c : Cl, cs = cvals c ∧ c.comb.length ≤ bnd := by
  have hl := h.len Tryd.underlying81
  rw [Tryd.cellsCell] at hl
  match cs, hl with
  | [a, b, c, d, e, f], _ =>
    obtain ⟨x, rfl, _⟩ := one_int (h.part Tryd.underlying81 0 rfl rfl rfl Tryd.cellsInt : Fine bnd Tryd.prog W 3 [a])
    have h1 : Fine bnd Tryd.prog W 9 [b] := h.part Tryd.underlying81 1 rfl rfl rfl Tryd.cellsStr
    obtain ⟨s, e1, hs⟩ := h1.string Tryd.underlying9
    obtain rfl : b = .string s := by simpa using e1
    obtain ⟨y, rfl, _⟩ := one_int (h.part Tryd.underlying81 2 rfl rfl rfl Tryd.cellsInt : Fine bnd Tryd.prog W 3 [c])
    obtain ⟨q, e2⟩ := open_attr (h.part Tryd.underlying81 3 rfl rfl rfl Tryd.cellsAttr : Fine bnd Tryd.prog W 32 [d, e, f])
    obtain ⟨rfl, rfl, rfl⟩ : d = .int .i64 q.fg ∧ e = .int .i64 q.bg ∧ f = .int .i64 q.flags := by simpa using e2
    refine ⟨⟨x, s.data.toList, y, q⟩, ?_, hs⟩
    obtain ⟨⟨l⟩⟩ := s
    rfl
theorem open_cells {bnd : Nat} {W : World} {v : Value} (h : Fine bnd Tryd.prog W 28 [v]) : ∃ l : List Cl, Rm W v l ∧ Texted bnd l := by
  rcases h.slice Tryd.underlying28 with h0 | ⟨a, len, cap, h1, h2, h3, h4⟩
  · obtain rfl : v = .slice none 0 0 := by simpa using h0
    exact ⟨[], Rm.nil W, by simp, fun i hi => absurd hi (by simp)⟩
  · obtain rfl : v = .slice (some a) len cap := by simpa using h1
    obtain ⟨l, hl, hq⟩ := list_of dflt (Q := fun i q => At W (a.add (i * 6)) (cvals q) ∧ q.comb.length ≤ bnd) len fun i hi => by
      obtain ⟨es, g1, g2, g3⟩ := h4 i hi
      obtain ⟨q, rfl, hb⟩ := open_cell g3
      refine ⟨q, fun j u hu => ?_, hb⟩
      have := g2 j u hu
      rw [Tryd.cellsCell] at this
      rw [Go.Deep.add_add]; exact this
    subst hl
    rw [Tryd.bytesCell] at h2
    refine ⟨l, ⟨⟨by simp, cvals_len l, .inr ⟨a, cap, by simp, fun i r hr => ?_⟩⟩, _, _, rfl, h3.1⟩, ?_, fun i hi => (hq i hi).2⟩
    · have hi : i < l.length := by
        have := (List.getElem?_eq_some_iff.1 hr).1
        simpa using this
      have e : r = cvals (l.getD i dflt) := by
        have := hr
        simp [hi] at this
        simp [List.getD, hi, ← this]
      rw [e]; exact (hq i hi).1
    · unfold reachBytes at h2; omega
end Row
end Go.Proofs.YtgjpojaegjdjcabDoor
end
section
/- Whether the laws' argument weighs much; numbers of errors. -/
namespace Go.Proofs.YtgjpojaegjdjcabDoor
set_option maxRecDepth 100000
open Go.RowKit
namespace Row

/-- A test: what it answers, and what its no means. -/
def Weighed (l : List Cl) (t : List ActG) (w : World) (e : Ending) (w' : World) : Prop :=
  ∃ b : Bool, e = .returned (.bool b) ∧ (b = false → l.length ≤ 3000 ∧ t.length ≤ 3000 ∧ ∀ k, k < t.length → (t.getD k noAct).r.length ≤ 3000) ∧ Below w.heap.size w w'
end Row
end Go.Proofs.YtgjpojaegjdjcabDoor
end
section
/- The developers' fitted: a row cut, or made longer. -/
namespace Go.Proofs.YtgjpojaegjdjcabDoor
set_option maxRecDepth 100000
open Go.RowKit
namespace Row

theorem cutL_end {l : List Cl} {p : Nat} (h : l.length ≤ p) : cutL l p = l := by unfold cutL; rw [if_neg (by omega)]
theorem fit_same {l : List Cl} (a : Look) : fitRow l l.length a = l := by
  unfold fitRow; rw [if_neg (Nat.lt_irrefl _), Nat.sub_self]; simp
theorem fit_long {l : List Cl} {n : Nat} (h : l.length < n) (a : Look) : fitRow l n a = l ++ List.replicate (n - l.length) (blank a) := by
  unfold fitRow; rw [if_neg (by omega)]
/-- Erased from there on, and cut there, a row is cut and mended. -/
theorem fit_cut {l : List Cl} (hg : Good l) {n : Nat} (h1 : 1 ≤ n) (h : n ≤ l.length) (a : Look) : (repl l n l.length (List.replicate (l.length - n) (blank a))).take n = fitRow l n a := by
  rcases Nat.lt_or_ge n l.length with hn | hn
  · have hr : repl l n l.length (List.replicate (l.length - n) (blank a)) = mid l n l.length (List.replicate (l.length - n) (blank a)) := by
      unfold repl; rw [if_neg (by omega)]
    rw [hr]
    unfold mid
    rw [cutL_end (l := cutL l n) (by rw [cutL_length]; exact Nat.le_refl _)]
    have ht : ((cutL l n).take n).length = n := by rw [List.length_take, cutL_length]; omega
    rw [List.take_left' ht]
    unfold fitRow
    rw [if_pos hn, Nat.sub_eq_zero_of_le (by omega), List.replicate_zero, List.append_nil]
    have hlen : (l.take n).length = n := by rw [List.length_take]; omega
    have hlast : g (l.take n) (n - 1) = g l (n - 1) := g_take (by omega)
    refine ext_g (by rw [ht, mendEnd_length, hlen]) fun i hi => ?_
    rw [ht] at hi
    rw [g_take hi, cutL_g]
    unfold mendEnd
    rw [hlen, hlast]
    have hwide : (g l n).wide = 2 ↔ (g l (n - 1)).wide = 1 := by
      constructor
      · intro hw
        obtain ⟨_, h2, _⟩ := good_ahead hg hn (kind_of_wide2 (okAt_kind (hg n hn)) hw)
        exact kind_2 h2
      · intro hw
        have hk := kind_of_wide1 (okAt_kind (hg (n - 1) (by omega))) hw
        rcases hg (n - 1) (by omega) with e | ⟨_, _, e⟩ | ⟨e, _⟩
        · omega
        · rw [show n - 1 + 1 = n from by omega] at e; rw [e]; rfl
        · omega
    by_cases hw : (g l n).wide = 2
    · rw [if_pos (c := _ ∧ _) ⟨by intro e; rw [e] at hlen; simp at hlen; omega, hwide.1 hw⟩]
      by_cases e : i = n - 1
      · subst e
        rw [if_pos ⟨by omega, hn, hw, .inr rfl⟩, g_set_same (by omega)]
      · rw [if_neg (by omega), g_set_ne (by omega), g_take hi]
    · rw [if_neg (fun h => hw h.2.2.1), if_neg (fun h => hw (hwide.2 h.2)), g_take hi]
  · have e : n = l.length := by omega
    subst e
    rw [fit_same, Nat.sub_self]
    unfold repl
    rw [if_pos ⟨rfl, rfl⟩, List.take_of_length_le (Nat.le_refl _)]
theorem two_of {w : World} {a b : Value} {p q : List Cl} (h1 : Cs w a p) (h2 : Cs w b q) : ∀ k, k < [p, q].length → Cs w ([a, b].getD k undef) ([p, q].getD k []) := by
  intro k hk
  have hk : k < 2 := hk
  rcases (by omega : k = 0 ∨ k = 1) with rfl | rfl
  · exact h1
  · exact h2
/-- It lies in no block g. -/
def Off (g : Nat) (v : Value) : Prop := ∀ ad n c, v = .slice (some ad) n c → ad.block ≠ g
theorem OwnCs.off {w : World} {base g : Nat} {v : Value} {l : List Cl} (h : OwnCs w base v l) (hg : g < base) : Off g v := by
  rcases h.shape with ⟨rfl, _⟩ | ⟨b, cap, rfl, hb, _⟩
  · intro ad n c e; cases e
  · intro ad n c e
    injection e with e1 _ _
    injection e1 with e1
    rw [← e1]
    show b ≠ g
    omega
theorem off_same {g : Nat} {A : Option Addr} {n c : Nat} (h : Off g (.slice A n c)) (n' c' : Nat) : Off g (.slice A n' c') := by
  intro ad n2 c2 e
  injection e with e1 _ _
  subst e1
  exact h ad n c rfl
end Row
end Go.Proofs.YtgjpojaegjdjcabDoor
end
section
/- Cells of grids by their rows; that a grid that may be has short texts; what lies below, moved up and down, is the same. -/
namespace Go.Proofs.YtgjpojaegjdjcabDoor
set_option maxRecDepth 100000
open Go.RowKit
namespace Row

theorem flat_g {c : Nat} : ∀ {rs : List (List Cl)} (_ : Even c rs) (q j : Nat), q < rs.length → j < c → g rs.flatten (q * c + j) = g (rowOf rs q) j
  | [], _, q, j, h, _ => absurd h (by simp)
  | r :: rs, he, 0, j, _, hj => by
    rw [List.flatten_cons, Nat.zero_mul, Nat.zero_add, g_append_left (by rw [he.head]; exact hj)]; rfl
  | r :: rs, he, q + 1, j, h, hj => by
    rw [List.flatten_cons, g_append_right (by rw [he.head, Nat.succ_mul]; omega), he.head, show (q + 1) * c + j - c = q * c + j from by rw [Nat.succ_mul]; omega, flat_g he.tail q j (by simpa using h) hj]
    rfl
theorem split_at {c n i : Nat} (h : i < n * c) : ∃ q j, q < n ∧ j < c ∧ i = q * c + j := by
  have hc : 0 < c := by
    rcases Nat.eq_zero_or_pos c with e | e
    · subst e; simp at h
    · exact e
  refine ⟨i / c, i % c, Nat.div_lt_of_lt_mul (by rw [Nat.mul_comm]; exact h), Nat.mod_lt _ hc, ?_⟩
  have := Nat.div_add_mod i c
  rw [Nat.mul_comm c] at this
  omega
theorem Rws.short {R C : Nat} {rs : List (List Cl)} (h : Rws R C rs) : ∀ i, i < rs.flatten.length → (g rs.flatten i).comb.length ≤ 8 := by
  intro i hi
  rw [even_length h.even, h.len] at hi
  obtain ⟨q, j, hq, hj, rfl⟩ := split_at hi
  rw [flat_g h.even q j (by rw [h.len]; exact hq) hj]
  exact good_texts (h.ok q hq).2.2 j (by rw [h.rlen hq]; exact hj)
theorem Rws.held {R C : Nat} {rs : List (List Cl)} (h : Rws R C rs) : Held rs.flatten := fun i hi => by have := h.short i hi; omega
theorem back_cells {R C : Nat} {rs : List (List Cl)} (h : Rws R C rs) {n : Nat} {a : Look} (ha : attrOk a = true) {i : Nat} (h1 : n * C ≤ i) (h2 : i < R * C) :
    g (moved (moved rs 0 (R - 1) n C a) 0 (R - 1) (-(n : Int)) C a).flatten i = g rs.flatten i := by
  have hR := h.r1
  have m1 := moved_rws h (top := 0) (bot := R - 1) (by omega) (n : Int) ha
  have m2 := moved_rws m1 (top := 0) (bot := R - 1) (by omega) (-(n : Int)) ha
  obtain ⟨q, j, hq, hj, rfl⟩ := split_at h2
  have hnq : n ≤ q := by
    rcases Nat.lt_or_ge q n with e | e
    · exfalso
      have : (q + 1) * C ≤ n * C := Nat.mul_le_mul_right C e
      rw [Nat.succ_mul] at this
      omega
    · exact e
  rw [flat_g m2.even q j (by rw [m2.len]; exact hq) hj, flat_g h.even q j (by rw [h.len]; exact hq) hj]
  have := back_rows (rs := rs) (n := n) (c := C) (a := a) hnq (by rw [h.len]; exact hq)
  rw [h.len] at this
  rw [this]
end Row
end Go.Proofs.YtgjpojaegjdjcabDoor
end
