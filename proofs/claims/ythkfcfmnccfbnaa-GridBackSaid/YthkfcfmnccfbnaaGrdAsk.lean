/- The laws' argument: a grid (or not) and acts. -/
import Derived.Test.YthkfcfmnccfbnaaRowFine
import Derived.Test.YthkfcfmnccfbnaaGrdMem
import Derived.Test.YthkfcfmnccfbnaaRowCheck
namespace Go.Proofs.Ythkfcfmnccfbnaa
set_option maxRecDepth 100000
open Go.ChangeShapes Go.WideShapes Go.RowKit
namespace Row

/-- An act: the row that it bears, as it stands in memory, and as it reads. -/
structure ActG where
  doo : Int
  i : Int
  k : Int
  n : Int
  a : Look
  v : Value
  r : List Cl
def actVals (t : ActG) : List Value := [.int .i64 t.doo, .int .i64 t.i, .int .i64 t.k, .int .i64 t.n, .int .i64 t.a.fg, .int .i64 t.a.bg, .int .i64 t.a.flags, t.v]
def noAct : ActG := ⟨0, 0, 0, 0, ⟨0, 0, 0⟩, .slice none 0 0, []⟩
/-- Numbers within the machine's bounds. -/
def I64 (n : Int) : Prop := -9223372036854775808 ≤ n ∧ n ≤ 9223372036854775807
def ActFits (t : ActG) : Prop := I64 t.doo ∧ I64 t.i ∧ I64 t.k ∧ I64 t.n
/-- Texts of at most so many bytes. -/
def Texted (bnd : Nat) (l : List Cl) : Prop := l.length ≤ 140737488355328 ∧ ∀ i, i < l.length → (g l i).comb.length ≤ bnd
/-- A slice of acts that reads as a list. -/
def Acts (bnd : Nat) (w : World) (x : Value) (l : List ActG) : Prop := Recs w x 8 l.length (l.map actVals) ∧ ∀ k, k < l.length → Rm w (l.getD k noAct).v (l.getD k noAct).r ∧ Texted bnd (l.getD k noAct).r ∧ ActFits (l.getD k noAct)
theorem Acts.kept {bnd : Nat} {w w' : World} {x : Value} {l : List ActG} (h : Acts bnd w x l) (hb : Below w.heap.size w w') : Acts bnd w' x l := ⟨Recs.kept h.1 hb, fun k hk => ⟨(h.2 k hk).1.kept hb, (h.2 k hk).2⟩⟩
theorem Acts.form {bnd : Nat} {w : World} {x : Value} {l : List ActG} (h : Acts bnd w x l) : ∃ A c, x = .slice A l.length c ∧ ∀ k, k < l.length → ∃ ad, A = some ad ∧ At w (ad.add (k * 8)) (actVals (l.getD k noAct)) := by
  obtain ⟨A, c, rfl, hf⟩ := Recs.form h.1
  refine ⟨A, c, rfl, fun k hk => ?_⟩
  obtain ⟨ad, rfl, ha⟩ := hf k hk
  refine ⟨ad, rfl, ?_⟩
  have e : (l.map actVals).getD k [] = actVals (l.getD k noAct) := by simp [List.getD, hk]
  rw [e] at ha; exact ha

theorem Try.cellsCell : Try.prog.cellsOf 39 = 6 := by kernel_rfl
theorem Try.bytesCell : Try.prog.bytesOf 39 = 56 := by kernel_rfl
theorem Try.cellsAct : Try.prog.cellsOf 42 = 8 := by kernel_rfl
theorem Try.bytesAct : Try.prog.bytesOf 42 = 80 := by kernel_rfl
theorem Try.cellsAttr : Try.prog.cellsOf 33 = 3 := by kernel_rfl
theorem Try.cellsInt : Try.prog.cellsOf 3 = 1 := by kernel_rfl
theorem Try.cellsStr : Try.prog.cellsOf 9 = 1 := by kernel_rfl
theorem Try.cellsCells : Try.prog.cellsOf 22 = 1 := by kernel_rfl
theorem Try.cellsActs : Try.prog.cellsOf 25 = 1 := by kernel_rfl
theorem Try.cellsScript : Try.prog.cellsOf 27 = 4 := by kernel_rfl
theorem Try.cellsGrid : Try.prog.cellsOf 24 = 3 := by kernel_rfl
open RowF
theorem one_int {bnd : Nat} {W : World} {v : Value} (h : Fine bnd Try.prog W 3 [v]) : ∃ n, v = .int .i64 n ∧ I64 n := by
  obtain ⟨x, e, hw⟩ := h.int Try.underlying3
  exact ⟨x, by simpa using e, i64_bd hw⟩
theorem open_attr {bnd : Nat} {W : World} {cs : List Value} (h : Fine bnd Try.prog W 33 cs) : ∃ a : Look, cs = [.int .i64 a.fg, .int .i64 a.bg, .int .i64 a.flags] := by
  have hl := h.len Try.underlying33
  rw [Try.cellsAttr] at hl
  match cs, hl with
  | [a, b, c], _ =>
    obtain ⟨x, rfl, _⟩ := one_int (h.part Try.underlying33 0 rfl rfl rfl Try.cellsInt : Fine bnd Try.prog W 3 [a])
    obtain ⟨y, rfl, _⟩ := one_int (h.part Try.underlying33 1 rfl rfl rfl Try.cellsInt : Fine bnd Try.prog W 3 [b])
    obtain ⟨z, rfl, _⟩ := one_int (h.part Try.underlying33 2 rfl rfl rfl Try.cellsInt : Fine bnd Try.prog W 3 [c])
    exact ⟨⟨x, y, z⟩, rfl⟩
theorem open_cell {bnd : Nat} {W : World} {cs : List Value} (h : Fine bnd Try.prog W 39 cs) : ∃ c : Cl, cs = cvals c ∧ c.comb.length ≤ bnd := by
  have hl := h.len Try.underlying39
  rw [Try.cellsCell] at hl
  match cs, hl with
  | [a, b, c, d, e, f], _ =>
    obtain ⟨x, rfl, _⟩ := one_int (h.part Try.underlying39 0 rfl rfl rfl Try.cellsInt : Fine bnd Try.prog W 3 [a])
    have h1 : Fine bnd Try.prog W 9 [b] := h.part Try.underlying39 1 rfl rfl rfl Try.cellsStr
    obtain ⟨s, e1, hs⟩ := h1.string Try.underlying9
    obtain rfl : b = .string s := by simpa using e1
    obtain ⟨y, rfl, _⟩ := one_int (h.part Try.underlying39 2 rfl rfl rfl Try.cellsInt : Fine bnd Try.prog W 3 [c])
    obtain ⟨q, e2⟩ := open_attr (h.part Try.underlying39 3 rfl rfl rfl Try.cellsAttr : Fine bnd Try.prog W 33 [d, e, f])
    obtain ⟨rfl, rfl, rfl⟩ : d = .int .i64 q.fg ∧ e = .int .i64 q.bg ∧ f = .int .i64 q.flags := by simpa using e2
    refine ⟨⟨x, s.data.toList, y, q⟩, ?_, hs⟩
    obtain ⟨⟨l⟩⟩ := s
    rfl
theorem open_cells {bnd : Nat} {W : World} {v : Value} (h : Fine bnd Try.prog W 22 [v]) : ∃ l : List Cl, Rm W v l ∧ Texted bnd l := by
  rcases h.slice Try.underlying22 with h0 | ⟨a, len, cap, h1, h2, h3, h4⟩
  · obtain rfl : v = .slice none 0 0 := by simpa using h0
    exact ⟨[], Rm.nil W, by simp, fun i hi => absurd hi (by simp)⟩
  · obtain rfl : v = .slice (some a) len cap := by simpa using h1
    obtain ⟨l, hl, hq⟩ := list_of dflt (Q := fun i q => At W (a.add (i * 6)) (cvals q) ∧ q.comb.length ≤ bnd) len fun i hi => by
      obtain ⟨es, g1, g2, g3⟩ := h4 i hi
      obtain ⟨q, rfl, hb⟩ := open_cell g3
      refine ⟨q, fun j u hu => ?_, hb⟩
      have := g2 j u hu
      rw [Try.cellsCell] at this
      rw [Go.Deep.add_add]; exact this
    subst hl
    rw [Try.bytesCell] at h2
    refine ⟨l, ⟨⟨by simp, cvals_len l, .inr ⟨a, cap, by simp, fun i r hr => ?_⟩⟩, _, _, rfl, h3.1⟩, ?_, fun i hi => (hq i hi).2⟩
    · have hi : i < l.length := by
        have := (List.getElem?_eq_some_iff.1 hr).1
        simpa using this
      have e : r = cvals (l.getD i dflt) := by
        have := hr
        simp [hi] at this
        simp [List.getD, hi, ← this]
      rw [e]; exact (hq i hi).1
    · unfold reachBytes at h2; omega
theorem open_act {bnd : Nat} {W : World} {cs : List Value} (h : Fine bnd Try.prog W 42 cs) : ∃ t : ActG, cs = actVals t ∧ Rm W t.v t.r ∧ Texted bnd t.r ∧ ActFits t := by
  have hl := h.len Try.underlying42
  rw [Try.cellsAct] at hl
  match cs, hl with
  | [a, b, c, c', d, e, f, s], _ =>
    obtain ⟨x, rfl, h1⟩ := one_int (h.part Try.underlying42 0 rfl rfl rfl Try.cellsInt : Fine bnd Try.prog W 3 [a])
    obtain ⟨y, rfl, h2⟩ := one_int (h.part Try.underlying42 1 rfl rfl rfl Try.cellsInt : Fine bnd Try.prog W 3 [b])
    obtain ⟨z, rfl, h3⟩ := one_int (h.part Try.underlying42 2 rfl rfl rfl Try.cellsInt : Fine bnd Try.prog W 3 [c])
    obtain ⟨u, rfl, h4⟩ := one_int (h.part Try.underlying42 3 rfl rfl rfl Try.cellsInt : Fine bnd Try.prog W 3 [c'])
    obtain ⟨q, e2⟩ := open_attr (h.part Try.underlying42 4 rfl rfl rfl Try.cellsAttr : Fine bnd Try.prog W 33 [d, e, f])
    obtain ⟨rfl, rfl, rfl⟩ : d = .int .i64 q.fg ∧ e = .int .i64 q.bg ∧ f = .int .i64 q.flags := by simpa using e2
    obtain ⟨r, k1, k2⟩ := open_cells (h.part Try.underlying42 5 rfl rfl rfl Try.cellsCells : Fine bnd Try.prog W 22 [s])
    exact ⟨⟨x, y, z, u, q, s, r⟩, rfl, k1, k2, h1, h2, h3, h4⟩
theorem open_acts {bnd : Nat} {W : World} {v : Value} (h : Fine bnd Try.prog W 25 [v]) : ∃ l : List ActG, Acts bnd W v l ∧ l.length ≤ 140737488355328 := by
  rcases h.slice Try.underlying25 with h0 | ⟨a, len, cap, h1, h2, _, h4⟩
  · obtain rfl : v = .slice none 0 0 := by simpa using h0
    exact ⟨[], ⟨⟨rfl, by simp, .inl ⟨rfl, rfl⟩⟩, fun k hk => absurd hk (by simp)⟩, by simp⟩
  · obtain rfl : v = .slice (some a) len cap := by simpa using h1
    obtain ⟨l, hl, hq⟩ := list_of noAct (Q := fun i q => At W (a.add (i * 8)) (actVals q) ∧ Rm W q.v q.r ∧ Texted bnd q.r ∧ ActFits q) len fun i hi => by
      obtain ⟨es, g1, g2, g3⟩ := h4 i hi
      obtain ⟨q, rfl, hb⟩ := open_act g3
      refine ⟨q, fun j u hu => ?_, hb⟩
      have := g2 j u hu
      rw [Try.cellsAct] at this
      rw [Go.Deep.add_add]; exact this
    subst hl
    rw [Try.bytesAct] at h2
    refine ⟨l, ⟨⟨by simp, ?_, .inr ⟨a, cap, by simp, fun i r hr => ?_⟩⟩, fun i hi => (hq i hi).2⟩, ?_⟩
    · intro r hr
      obtain ⟨q, _, rfl⟩ := List.mem_map.1 hr
      rfl
    · have hi : i < l.length := by
        have := (List.getElem?_eq_some_iff.1 hr).1
        simpa using this
      have e : r = actVals (l.getD i noAct) := by
        have := hr
        simp [hi] at this
        simp [List.getD, hi, ← this]
      rw [e]; exact (hq i hi).1
    · unfold reachBytes at h2; omega
/-- The laws' argument. -/
theorem open_script {bnd : Nat} {W : World} {cs : List Value} (h : Fine bnd Try.prog W 27 cs) : ∃ r c x y, cs = [.int .i64 r, .int .i64 c, x, y] ∧
    I64 r ∧ I64 c ∧ (∃ l : List Cl, Rm W x l ∧ Texted bnd l) ∧ ∃ t : List ActG, Acts bnd W y t ∧ t.length ≤ 140737488355328 := by
  have hl := h.len Try.underlying27
  rw [Try.cellsScript] at hl
  match cs, hl with
  | [r, c, x, y], _ =>
    have hg : Fine bnd Try.prog W 24 [r, c, x] := h.part Try.underlying27 0 rfl rfl rfl Try.cellsGrid
    obtain ⟨r', rfl, h1⟩ := one_int (hg.part Try.underlying24 0 rfl rfl rfl Try.cellsInt : Fine bnd Try.prog W 3 [r])
    obtain ⟨c', rfl, h2⟩ := one_int (hg.part Try.underlying24 1 rfl rfl rfl Try.cellsInt : Fine bnd Try.prog W 3 [c])
    have h3 : Fine bnd Try.prog W 22 [x] := hg.part Try.underlying24 2 rfl rfl rfl Try.cellsCells
    have h4 : Fine bnd Try.prog W 25 [y] := h.part Try.underlying27 1 rfl rfl rfl Try.cellsActs
    exact ⟨r', c', x, y, rfl, h1, h2, open_cells h3, open_acts h4⟩
end Row
end Go.Proofs.Ythkfcfmnccfbnaa
