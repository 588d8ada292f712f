/- Cells of a row in memory: slices that read as cells, rows of the call's own; append, a cell stored; what the statements share on them. -/
import Derived.Test.YthkfcfmnccfbnaaRowBase
namespace Go.Proofs.Ythkfcfmnccfbnaa
set_option maxRecDepth 100000
open Go.RowKit
namespace Row

def avals (a : Look) : Array Value := #[.int .i64 a.fg, .int .i64 a.bg, .int .i64 a.flags]
def cvals (c : Cl) : List Value := [.int .i64 c.rune, .string ⟨c.comb.toArray⟩, .int .i64 c.wide, .int .i64 c.a.fg, .int .i64 c.a.bg, .int .i64 c.a.flags]
def cagg (c : Cl) : Value := .agg #[.int .i64 c.rune, .string ⟨c.comb.toArray⟩, .int .i64 c.wide, .int .i64 c.a.fg, .int .i64 c.a.bg, .int .i64 c.a.flags]
def flat (l : List Cl) : List Value := (l.map cvals).flatten
theorem flat_nil : flat [] = [] := rfl
theorem flat_cons (c : Cl) (l : List Cl) : flat (c :: l) = cvals c ++ flat l := rfl
theorem flat_append (a b : List Cl) : flat (a ++ b) = flat a ++ flat b := by unfold flat; rw [List.map_append, List.flatten_append]
theorem cvals_len (l : List Cl) : ∀ r ∈ l.map cvals, r.length = 6 := by
  intro r hr
  obtain ⟨c, _, rfl⟩ := List.mem_map.1 hr
  rfl
theorem flat_length (l : List Cl) : (flat l).length = l.length * 6 := by unfold flat; rw [flatten_len _ (cvals_len l), List.length_map]
theorem flat_get {l : List Cl} {i : Nat} (h : i < l.length) {j : Nat} (hj : j < 6) : (flat l)[i * 6 + j]? = (cvals (g l i))[j]? := by
  have hr : (l.map cvals)[i]? = some (cvals (g l i)) := by rw [List.getElem?_map, g_get h]; rfl
  have hj' : j < (cvals (g l i)).length := hj
  rw [List.getElem?_eq_getElem hj']
  exact flatten_get _ (cvals_len l) i _ hr j _ (List.getElem?_eq_getElem hj')
theorem flat_cells (l : List Cl) : ∀ u ∈ flat l, u.oneCell' = true := by
  intro u hu
  obtain ⟨r, hr, hu⟩ := List.mem_flatten.1 hu
  obtain ⟨c, _, rfl⟩ := List.mem_map.1 hr
  simp only [cvals, List.mem_cons, List.not_mem_nil, or_false] at hu
  rcases hu with rfl | rfl | rfl | rfl | rfl | rfl <;> rfl
/-- The six cells of element k, written over, one behind the other. -/
theorem flat_set : ∀ (l : List Cl) (k : Nat) (_ : k < l.length) (c : Cl),
    ((((((flat l).set (k * 6) (.int .i64 c.rune)).set (k * 6 + 1) (.string ⟨c.comb.toArray⟩)).set (k * 6 + 2) (.int .i64 c.wide)).set (k * 6 + 3) (.int .i64 c.a.fg)).set (k * 6 + 4) (.int .i64 c.a.bg)).set (k * 6 + 5) (.int .i64 c.a.flags) = flat (l.set k c)
  | x :: l, 0, _, c => by
    show _ = cvals c ++ flat l
    rw [flat_cons]
    rfl
  | x :: l, k + 1, h, c => by
    have ih := flat_set l k (by simpa using h) c
    show _ = cvals x ++ flat (l.set k c)
    rw [← ih, flat_cons]
    have hx : (cvals x).length = 6 := rfl
    have e : ∀ (j : Nat) (t : List Value) (v : Value), (cvals x ++ t).set ((k + 1) * 6 + j) v = cvals x ++ t.set (k * 6 + j) v := by
      intro j t v
      rw [List.set_append_right _ _ (by rw [hx]; omega), hx, show (k + 1) * 6 + j - 6 = k * 6 + j from by omega]
    have e0 : ∀ (t : List Value) (v : Value), (cvals x ++ t).set ((k + 1) * 6) v = cvals x ++ t.set (k * 6) v := e 0
    rw [e0, e, e, e, e, e]
/-- A slice that reads as these cells. -/
def Cs (w : World) (x : Value) (l : List Cl) : Prop := Recs w x 6 l.length (l.map cvals)
/-- The same in memory of the call's own. -/
def OwnCs (w : World) (base : Nat) (v : Value) (l : List Cl) : Prop := w.ownsRow base 39 6 v l.length (flat l)
theorem OwnCs.cs {w : World} {base : Nat} {v : Value} {l : List Cl} (h : OwnCs w base v l) : Cs w v l := Recs.own h (List.length_map _) (cvals_len l)
theorem OwnCs.kept {w w' : World} {base : Nat} {v : Value} {l : List Cl} (h : OwnCs w base v l) (hb : Below w.heap.size w w') : OwnCs w' base v l :=
  World.ownsRow.kept (row := none) h ⟨hb.os, hb.tape, hb.output, hb.size, fun k hk _ => hb.block k hk⟩ (by cases v.ownBlock <;> simp)
theorem OwnCs.nil (w : World) (base : Nat) : OwnCs w base (.slice none 0 0) [] := World.ownsRow_nil _ _ _ _
theorem OwnCs.low {w : World} {base b2 : Nat} {v : Value} {l : List Cl} (h : OwnCs w base v l) (hb : b2 ≤ base) : OwnCs w b2 v l := Blk.low h hb
theorem OwnCs.lt {w : World} {base : Nat} {v : Value} {l : List Cl} (h : OwnCs w base v l) (k : Nat) (hk : v.ownBlock = some k) : base ≤ k ∧ k < w.heap.size := World.ownsRow.lt h k hk
theorem OwnCs.shape {w : World} {base : Nat} {v : Value} {l : List Cl} (h : OwnCs w base v l) : (v = .slice none 0 0 ∧ l = []) ∨ ∃ g cap, v = .slice (some ⟨g, 0, none⟩) l.length cap ∧ base ≤ g ∧ l.length ≤ cap := by
  rcases h.2 with ⟨rfl, h0⟩ | ⟨g, cap, cur, rfl, hb, hg, hc, _⟩
  · exact .inl ⟨rfl, List.eq_nil_of_length_eq_zero h0⟩
  · exact .inr ⟨g, cap, rfl, hb, hc⟩
theorem Cs.kept {w w' : World} {x : Value} {l : List Cl} (h : Cs w x l) (hb : Below w.heap.size w w') : Cs w' x l := Recs.kept h hb
theorem Cs.drewN {w : World} {x : Value} {l : List Cl} (h : Cs w x l) (q : Nat) : Cs (w.drewN q) x l := h
theorem Cs.nil (w : World) : Cs w (.slice none 0 0) [] := by
  show Recs w _ 6 0 []
  exact ⟨rfl, fun _ h => (by cases h), .inl ⟨rfl, rfl⟩⟩
theorem map_getD {l : List Cl} {k : Nat} (h : k < l.length) : (l.map cvals).getD k [] = cvals (g l k) := by
  rw [List.getD, List.getElem?_map, g_get h]; rfl
/-- By its parts. -/
theorem Cs.form {w : World} {x : Value} {l : List Cl} (h : Cs w x l) : ∃ A c, x = .slice A l.length c ∧ ∀ k, k < l.length → ∃ ad, A = some ad ∧ At w (ad.add (k * 6)) (cvals (g l k)) := by
  obtain ⟨A, c, rfl, hc⟩ := Recs.form h
  refine ⟨A, c, rfl, fun k hk => ?_⟩
  obtain ⟨ad, h1, h2⟩ := hc k hk
  exact ⟨ad, h1, by rwa [map_getD hk] at h2⟩
/-- All its cells, from where it begins on. -/
theorem Cs.flat {w : World} {ad : Addr} {n c : Nat} {l : List Cl} (h : Cs w (.slice (some ad) n c) l) : n = l.length ∧ ∀ j u, (Row.flat l)[j]? = some u → w.cell? (ad.add j) = some u := by
  obtain ⟨A, c', e, hc⟩ := h.form
  injection e with e1 e2 e3
  subst e1
  refine ⟨e2, fun j u hu => ?_⟩
  have hj : j < l.length * 6 := by rw [← flat_length]; exact (List.getElem?_eq_some_iff.1 hu).1
  have hk : j / 6 < l.length := by omega
  obtain ⟨ad', e, hat⟩ := hc (j / 6) hk
  injection e with e
  subst e
  have hj6 : j % 6 < 6 := Nat.mod_lt _ (by decide)
  have hd : j = j / 6 * 6 + j % 6 := by omega
  have := hat (j % 6) u (by rw [hd, flat_get hk hj6] at hu; exact hu)
  rw [Go.Deep.add_add, ← hd] at this
  exact this
/-- What begins there and holds these cells reads so. -/
theorem Cs.of {w : World} {ad : Addr} {c : Nat} {l : List Cl} (h : ∀ j u, (Row.flat l)[j]? = some u → w.cell? (ad.add j) = some u) : Cs w (.slice (some ad) l.length c) l := by
  refine ⟨List.length_map _, cvals_len l, .inr ⟨ad, c, rfl, fun i r hr j u hu => ?_⟩⟩
  rw [Go.Deep.add_add]
  exact h _ u (flatten_get _ (cvals_len l) i r hr j u hu)
theorem cell_info : (Try.prog.info? 39).map (fun i => (i.zero, i.size, i.bytes)) = some (some (.agg #[.int .i64 0, .string ⟨#[]⟩, .int .i64 0, .int .i64 0, .int .i64 0, .int .i64 0]), 6, 56) := by kernel_rfl
theorem cell_row : ∃ i : TypeInfo, Try.prog.info? 39 = some i ∧ i.zero = some (.agg #[.int .i64 0, .string ⟨#[]⟩, .int .i64 0, .int .i64 0, .int .i64 0, .int .i64 0]) ∧ i.size = 6 ∧ i.bytes = 56 := by
  obtain ⟨i, h, h1, h2, h3⟩ := info_parts cell_info
  exact ⟨i, h, h1, h2, h3⟩
/-- append of cells, as the machine runs it. -/
theorem run_append_cs {w : World} {base : Nat} {ty : TypeId} {v x : Value} {l r : List Cl} (hown : OwnCs w base v l) (hx : Cs w x r) (hl : l.length + r.length ≤ 1000000000) (hbase : base ≤ w.heap.size) :
    ∃ v' w', (Builtin.append_ #[22, 22] ty #[v, x]).run Try.prog w = .ok v' w' ∧ OwnCs w' base v' (l ++ r) ∧ w.grownBy w' v.ownBlock ∧ (v'.ownBlock = v.ownBlock ∨ v'.ownBlock = some w.heap.size) := by
  obtain ⟨i, hi, hz, h6, h56⟩ := cell_row
  rcases hx.2.2 with ⟨rfl, h0⟩ | ⟨ad, c, rfl, _⟩
  · have hr : r = [] := List.eq_nil_of_length_eq_zero h0
    subst hr
    exact ⟨v, w, run_append_owned_none (P := Try.prog) (w := w) base _ ty 39 i 6 Try.underlying22 hi v l.length _ hown, by rw [List.append_nil]; exact hown, World.grownBy.refl w _, .inl rfl⟩
  · obtain ⟨v', w', hr, h2, h3, _, h5⟩ := run_append_own_at (P := Try.prog) w base 22 ty 39 i _ 6 56 Try.underlying22 hi hz h6 h56 rfl (by decide) v l.length _ hown ad r.length c (flat r) (flat_length r) hx.flat.2 (flat_cells r) (by simp only [maxLen]; omega) (by omega) hbase
    exact ⟨v', w', hr, by unfold OwnCs; rw [List.length_append, flat_append]; exact h2, h3, h5⟩
theorem wp_append_cs {w : World} {ops : Array Oper} {rest : List Oper} {o : Oper} {a : Act} {Q : Exit → Act → World → Prop} {s x : Operand} (hgd : o.guard = none)
    (ho : o.op = .call { callee := .builtin .append, args := #[s, x], argTypes := #[22, 22] }) (base : Nat) (v y : Value) (l r : List Cl) (hs : a.eval s = v) (hown : OwnCs w base v l)
    (hy : a.eval x = y) (hx : Cs w y r) (hl : l.length + r.length ≤ 1000000000) (hbase : base ≤ w.heap.size)
    (h : ∀ v' w', OwnCs w' base v' (l ++ r) → w.grownBy w' v.ownBlock → (v'.ownBlock = v.ownBlock ∨ v'.ownBlock = some w.heap.size) → wpList Try.prog ops Q rest (a.put o.dst v') w') :
    wpList Try.prog ops Q (o :: rest) a w := by
  refine wpList_plain hgd fun K hK => ?_
  obtain ⟨v', w', hr, h2, h3, h4⟩ := run_append_cs (ty := o.type) hown hx hl hbase
  unfold Oper.wp execOp
  simp only [ho, resolve, invoke, builtin, Sem.run_bind, Sem.run_pure, Result.andThen_ok, List.map_toArray, List.map_cons, List.map_nil, hs, hy, hr]
  exact hK _ _ (h v' w' h2 h3 h4)
theorem below_cs {B : Nat} {a w w' : World} {v : Value} {l : List Cl} (h : Below B a w) (hg : w.grownBy w' v.ownBlock) (hB : B ≤ w.heap.size) (ho : OwnCs w B v l) : Below B a w' :=
  h.grown hg hB fun k hk => (ho.lt k hk).1
/-- One cell just made. -/
theorem Cs.one (w : World) (c : Cl) (e : TypeId) (cap : Nat) (arr : Array Value) (h : (cvals c).toArray = arr) : Cs (w.alloc (.cells arr e)) (.slice (some ⟨w.heap.size, 0, none⟩) 1 cap) [c] := by
  subst h
  refine Cs.of (l := [c]) fun j u hu => ?_
  have hl : (w.alloc (.cells (cvals c).toArray e)).heap[w.heap.size]? = some (.cells (cvals c).toArray e) := by
    show (w.heap.push _)[w.heap.size]? = _
    simp
  exact World.news_of_block hl j u (by simpa [Row.flat] using hu)
theorem take_succ_g {l : List Cl} {k : Nat} (h : k < l.length) : l.take (k + 1) = l.take k ++ [g l k] := by
  rw [List.take_succ_eq_append_getElem h, g_eq h]

/-- A struct is its like. -/
@[go_sem] theorem neq_cell (r : Int) (cb : ByteArray) (x fg bg fl : Int) (w : World) :
    (binOp .neq 39 (.agg #[.int .i64 r, .string cb, .int .i64 x, .int .i64 fg, .int .i64 bg, .int .i64 fl]) (.agg #[.int .i64 r, .string cb, .int .i64 x, .int .i64 fg, .int .i64 bg, .int .i64 fl])).run Try.prog w = .ok (.bool false) w := by
  simp [go_sem]
end Row
end Go.Proofs.Ythkfcfmnccfbnaa
