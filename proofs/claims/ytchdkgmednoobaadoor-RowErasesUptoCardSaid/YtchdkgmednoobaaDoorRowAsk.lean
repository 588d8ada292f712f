/- The laws' argument: a row (or not) and acts. -/
import Derived.Test.YtchdkgmednoobaaDoorRowFine
import Derived.Test.YtchdkgmednoobaaDoorRowHelp
namespace Go.Proofs.YtchdkgmednoobaaDoor
set_option maxRecDepth 100000
open Go.ChangeShapes Go.WideShapes Go.RowKit
namespace Row

structure ActL where
  doo : Int
  at_ : Int
  n : Int
  r : Int
  a : Look
def actVals (t : ActL) : List Value := [.int .i64 t.doo, .int .i64 t.at_, .int .i64 t.n, .int .i64 t.r, .int .i64 t.a.fg, .int .i64 t.a.bg, .int .i64 t.a.flags]
def noAct : ActL := ⟨0, 0, 0, 0, ⟨0, 0, 0⟩⟩
/-- A slice of acts that reads as a list. -/
def Acts (w : World) (x : Value) (l : List ActL) : Prop := Recs w x 7 l.length (l.map actVals)
theorem Acts.kept {w w' : World} {x : Value} {l : List ActL} (h : Acts w x l) (hb : Below w.heap.size w w') : Acts w' x l := Recs.kept h hb
theorem Acts.form {w : World} {x : Value} {l : List ActL} (h : Acts w x l) : ∃ A c, x = .slice A l.length c ∧ ∀ k, k < l.length → ∃ ad, A = some ad ∧ At w (ad.add (k * 7)) (actVals (l.getD k noAct)) := by
  obtain ⟨A, c, rfl, hf⟩ := Recs.form h
  refine ⟨A, c, rfl, fun k hk => ?_⟩
  obtain ⟨ad, rfl, ha⟩ := hf k hk
  refine ⟨ad, rfl, ?_⟩
  have e : (l.map actVals).getD k [] = actVals (l.getD k noAct) := by simp [List.getD, hk]
  rw [e] at ha; exact ha
/-- Numbers within the machine's bounds. -/
def I64 (n : Int) : Prop := -9223372036854775808 ≤ n ∧ n ≤ 9223372036854775807
def ActFits (t : ActL) : Prop := I64 t.doo ∧ I64 t.at_ ∧ I64 t.n ∧ I64 t.r

theorem Tryd.cellsCell : Tryd.prog.cellsOf 45 = 6 := by kernel_rfl
theorem Tryd.bytesCell : Tryd.prog.bytesOf 45 = 56 := by kernel_rfl
theorem Tryd.cellsAct : Tryd.prog.cellsOf 35 = 7 := by kernel_rfl
theorem Tryd.bytesAct : Tryd.prog.bytesOf 35 = 56 := by kernel_rfl
theorem Tryd.cellsAttr : Tryd.prog.cellsOf 32 = 3 := by kernel_rfl
theorem Tryd.cellsInt : Tryd.prog.cellsOf 3 = 1 := by kernel_rfl
theorem Tryd.cellsStr : Tryd.prog.cellsOf 9 = 1 := by kernel_rfl
theorem Tryd.cellsCells : Tryd.prog.cellsOf 22 = 1 := by kernel_rfl
theorem Tryd.cellsActs : Tryd.prog.cellsOf 23 = 1 := by kernel_rfl
theorem Tryd.cellsScript : Tryd.prog.cellsOf 25 = 2 := by kernel_rfl
open RowF
theorem one_int {bnd : Nat} {W : World} {v : Value} (h : Fine bnd Tryd.prog W 3 [v]) : ∃ n, v = .int .i64 n ∧ I64 n := by
  obtain ⟨x, e, hw⟩ := h.int Tryd.underlying3
  exact ⟨x, by simpa using e, i64_bd hw⟩
theorem open_attr {bnd : Nat} {W : World} {cs : List Value} (h : Fine bnd Tryd.prog W 32 cs) : ∃ a : Look, cs = [.int .i64 a.fg, .int .i64 a.bg, .int .i64 a.flags] := by
  have hl := h.len Tryd.underlying32
  rw [Tryd.cellsAttr] at hl
  match cs, hl with
  | [a, b, c], _ =>
    obtain ⟨x, rfl, _⟩ := one_int (h.part Tryd.underlying32 0 rfl rfl rfl Tryd.cellsInt : Fine bnd Tryd.prog W 3 [a])
    obtain ⟨y, rfl, _⟩ := one_int (h.part Tryd.underlying32 1 rfl rfl rfl Tryd.cellsInt : Fine bnd Tryd.prog W 3 [b])
    obtain ⟨z, rfl, _⟩ := one_int (h.part Tryd.underlying32 2 rfl rfl rfl Tryd.cellsInt : Fine bnd Tryd.prog W 3 [c])
    exact ⟨⟨x, y, z⟩, rfl⟩
theorem open_cell {bnd : Nat} {W : World} {cs : List Value} (h : Fine bnd Tryd.prog W 45 cs) : ∃ c : Cl, cs = cvals c ∧ c.comb.length ≤ bnd := by
  have hl := h.len Tryd.underlying45
  rw [Tryd.cellsCell] at hl
  match cs, hl with
  | [a, b, c, d, e, f], _ =>
    obtain ⟨x, rfl, _⟩ := one_int (h.part Tryd.underlying45 0 rfl rfl rfl Tryd.cellsInt : Fine bnd Tryd.prog W 3 [a])
    have h1 : Fine bnd Tryd.prog W 9 [b] := h.part Tryd.underlying45 1 rfl rfl rfl Tryd.cellsStr
    obtain ⟨s, e1, hs⟩ := h1.string Tryd.underlying9
    obtain rfl : b = .string s := by simpa using e1
    obtain ⟨y, rfl, _⟩ := one_int (h.part Tryd.underlying45 2 rfl rfl rfl Tryd.cellsInt : Fine bnd Tryd.prog W 3 [c])
    obtain ⟨q, e2⟩ := open_attr (h.part Tryd.underlying45 3 rfl rfl rfl Tryd.cellsAttr : Fine bnd Tryd.prog W 32 [d, e, f])
    obtain ⟨rfl, rfl, rfl⟩ : d = .int .i64 q.fg ∧ e = .int .i64 q.bg ∧ f = .int .i64 q.flags := by simpa using e2
    refine ⟨⟨x, s.data.toList, y, q⟩, ?_, hs⟩
    obtain ⟨⟨l⟩⟩ := s
    rfl
theorem open_act {bnd : Nat} {W : World} {cs : List Value} (h : Fine bnd Tryd.prog W 35 cs) : ∃ t : ActL, cs = actVals t ∧ ActFits t := by
  have hl := h.len Tryd.underlying35
  rw [Tryd.cellsAct] at hl
  match cs, hl with
  | [a, b, c, c', d, e, f], _ =>
    obtain ⟨x, rfl, h1⟩ := one_int (h.part Tryd.underlying35 0 rfl rfl rfl Tryd.cellsInt : Fine bnd Tryd.prog W 3 [a])
    obtain ⟨y, rfl, h2⟩ := one_int (h.part Tryd.underlying35 1 rfl rfl rfl Tryd.cellsInt : Fine bnd Tryd.prog W 3 [b])
    obtain ⟨z, rfl, h3⟩ := one_int (h.part Tryd.underlying35 2 rfl rfl rfl Tryd.cellsInt : Fine bnd Tryd.prog W 3 [c])
    obtain ⟨u, rfl, h4⟩ := one_int (h.part Tryd.underlying35 3 rfl rfl rfl Tryd.cellsInt : Fine bnd Tryd.prog W 3 [c'])
    obtain ⟨q, e2⟩ := open_attr (h.part Tryd.underlying35 4 rfl rfl rfl Tryd.cellsAttr : Fine bnd Tryd.prog W 32 [d, e, f])
    obtain ⟨rfl, rfl, rfl⟩ : d = .int .i64 q.fg ∧ e = .int .i64 q.bg ∧ f = .int .i64 q.flags := by simpa using e2
    exact ⟨⟨x, y, z, u, q⟩, rfl, h1, h2, h3, h4⟩
theorem open_cells {bnd : Nat} {W : World} {v : Value} (h : Fine bnd Tryd.prog W 22 [v]) : ∃ l : List Cl, Cs W v l ∧ l.length ≤ 140737488355328 ∧ ∀ i, i < l.length → (g l i).comb.length ≤ bnd := by
  rcases h.slice Tryd.underlying22 with h0 | ⟨a, len, cap, h1, h2, _, h4⟩
  · obtain rfl : v = .slice none 0 0 := by simpa using h0
    exact ⟨[], Cs.nil W, by simp, fun i hi => absurd hi (by simp)⟩
  · obtain rfl : v = .slice (some a) len cap := by simpa using h1
    obtain ⟨l, hl, hq⟩ := list_of dflt (Q := fun i q => At W (a.add (i * 6)) (cvals q) ∧ q.comb.length ≤ bnd) len fun i hi => by
      obtain ⟨es, g1, g2, g3⟩ := h4 i hi
      obtain ⟨q, rfl, hb⟩ := open_cell g3
      refine ⟨q, fun j u hu => ?_, hb⟩
      have := g2 j u hu
      rw [Tryd.cellsCell] at this
      rw [Go.Deep.add_add]; exact this
    subst hl
    rw [Tryd.bytesCell] at h2
    refine ⟨l, ⟨by simp, cvals_len l, .inr ⟨a, cap, by simp, fun i r hr => ?_⟩⟩, ?_, fun i hi => (hq i hi).2⟩
    · have hi : i < l.length := by
        have := (List.getElem?_eq_some_iff.1 hr).1
        simpa using this
      have e : r = cvals (l.getD i dflt) := by
        have := hr
        simp [hi] at this
        simp [List.getD, hi, ← this]
      rw [e]; exact (hq i hi).1
    · unfold reachBytes at h2; omega
theorem open_acts {bnd : Nat} {W : World} {v : Value} (h : Fine bnd Tryd.prog W 23 [v]) : ∃ l : List ActL, Acts W v l ∧ l.length * 56 ≤ 140737488355328 ∧ ∀ i, i < l.length → ActFits (l.getD i noAct) := by
  rcases h.slice Tryd.underlying23 with h0 | ⟨a, len, cap, h1, h2, _, h4⟩
  · obtain rfl : v = .slice none 0 0 := by simpa using h0
    exact ⟨[], ⟨rfl, by simp, .inl ⟨rfl, rfl⟩⟩, by simp, fun i hi => absurd hi (by simp)⟩
  · obtain rfl : v = .slice (some a) len cap := by simpa using h1
    obtain ⟨l, hl, hq⟩ := list_of noAct (Q := fun i q => At W (a.add (i * 7)) (actVals q) ∧ ActFits q) len fun i hi => by
      obtain ⟨es, g1, g2, g3⟩ := h4 i hi
      obtain ⟨q, rfl, hb⟩ := open_act g3
      refine ⟨q, fun j u hu => ?_, hb⟩
      have := g2 j u hu
      rw [Tryd.cellsAct] at this
      rw [Go.Deep.add_add]; exact this
    subst hl
    rw [Tryd.bytesAct] at h2
    refine ⟨l, ⟨by simp, ?_, .inr ⟨a, cap, by simp, fun i r hr => ?_⟩⟩, ?_, fun i hi => (hq i hi).2⟩
    · intro r hr
      obtain ⟨q, _, rfl⟩ := List.mem_map.1 hr
      rfl
    · have hi : i < l.length := by
        have := (List.getElem?_eq_some_iff.1 hr).1
        simpa using this
      have e : r = actVals (l.getD i noAct) := by
        have := hr
        simp [hi] at this
        simp [List.getD, hi, ← this]
      rw [e]; exact (hq i hi).1
    · unfold reachBytes at h2; omega
/-- The laws' argument. -/
theorem open_script {bnd : Nat} {W : World} {cs : List Value} (h : Fine bnd Tryd.prog W 25 cs) : ∃ x y, cs = [x, y] ∧
    (∃ l : List Cl, Cs W x l ∧ l.length ≤ 140737488355328 ∧ ∀ i, i < l.length → (g l i).comb.length ≤ bnd) ∧ ∃ t : List ActL, Acts W y t ∧ t.length * 56 ≤ 140737488355328 ∧ ∀ i, i < t.length → ActFits (t.getD i noAct) := by
  have hl := h.len Tryd.underlying25
  rw [Tryd.cellsScript] at hl
  match cs, hl with
  | [x, y], _ =>
    have h0 : Fine bnd Tryd.prog W 22 [x] := h.part Tryd.underlying25 0 rfl rfl rfl Tryd.cellsCells
    have h1 : Fine bnd Tryd.prog W 23 [y] := h.part Tryd.underlying25 1 rfl rfl rfl Tryd.cellsActs
    exact ⟨x, y, rfl, open_cells h0, open_acts h1⟩
/-- A test: what it answers, and what its no means. -/
def Weighed (l : List Cl) (t : List ActL) (w : World) (e : Ending) (w' : World) : Prop := ∃ b : Bool, e = .returned (.bool b) ∧ (b = false → l.length ≤ 200 ∧ t.length ≤ 200) ∧ Below w.heap.size w w'
set_option maxHeartbeats 800000 in
theorem heavy_any {x y : Value} (l : List Cl) (t : List ActL) (w : World) (hx : Cs w x l) (hy : Acts w y t) (hn : l.length ≤ 140737488355328) (hm : t.length ≤ 140737488355328) :
    Calls Tryd.prog 6 #[.agg #[x, y]] w (Weighed l t w) := by
  obtain ⟨A, c, rfl, _⟩ := hx.form
  obtain ⟨A', c', rfl, _⟩ := hy.form
  have HB : Hid (Below w.heap.size w (w.alloc (.cells #[.slice A l.length c, .slice A' t.length c'] 25))) := Lib.hid ((Below.refl _ _).alloc (Nat.le_refl _) _)
  clear hx hy
  have HQ : Hid ((decide (200 < (l.length : Int)) || decide (200 < (t.length : Int))) = false → l.length ≤ 200 ∧ t.length ≤ 200) := Lib.hid fun h => by
    rw [Bool.or_eq_false_iff] at h
    have h1 := of_decide_eq_false h.1
    have h2 := of_decide_eq_false h.2
    omega
  go_enter Tryd.func6, Tryd.ntmps6
  go_wp2_with fail
  all_goals
    go_ret
    first
      | exact ⟨true, rfl, fun h => (by cases h), HB.out⟩
      | exact ⟨_, rfl, HQ.out, HB.out⟩
end Row
end Go.Proofs.YtchdkgmednoobaaDoor
