/- Structs of three numbers as plain data: their cells, lists of them. -/
import Derived.Test.YtkkpdfjbgiijlaaDoorRecs
namespace Go.Proofs.YtkkpdfjbgiijlaaDoor
set_option maxRecDepth 100000
open Go.RowKit
namespace Tri

structure T3 where
  a : Int
  b : Int
  c : Int
deriving DecidableEq
/-- Its numbers are ints. -/
structure T3.Small (t : T3) : Prop where
  a : -9223372036854775808 ≤ t.a ∧ t.a ≤ 9223372036854775807
  b : -9223372036854775808 ≤ t.b ∧ t.b ≤ 9223372036854775807
  c : -9223372036854775808 ≤ t.c ∧ t.c ≤ 9223372036854775807
def g (l : List T3) (k : Nat) : T3 := l.getD k ⟨0, 0, 0⟩
theorem g_get {l : List T3} {k : Nat} (h : k < l.length) : l[k]? = some (g l k) := by simp [g, h]
theorem g_eq {l : List T3} {k : Nat} (h : k < l.length) : g l k = l[k] := by simp [g, h]
theorem eq_of_g : ∀ {a b : List T3}, a.length = b.length → (∀ k, k < a.length → g a k = g b k) → a = b
  | [], [], _, _ => rfl
  | x :: a, y :: b, hl, h => by
    have h0 : x = y := by simpa [g] using h 0 (by simp)
    have : a = b := eq_of_g (by simpa using hl) fun k hk => by simpa [g] using h (k + 1) (by simpa using hk)
    rw [h0, this]
def tvals (t : T3) : List Value := [.int .i64 t.a, .int .i64 t.b, .int .i64 t.c]
def tagg (t : T3) : Value := .agg #[.int .i64 t.a, .int .i64 t.b, .int .i64 t.c]
def flat (l : List T3) : List Value := (l.map tvals).flatten
theorem flat_nil : flat [] = [] := rfl
theorem flat_cons (c : T3) (l : List T3) : flat (c :: l) = tvals c ++ flat l := rfl
theorem flat_append (a b : List T3) : flat (a ++ b) = flat a ++ flat b := by unfold flat; rw [List.map_append, List.flatten_append]
theorem tvals_len (l : List T3) : ∀ r ∈ l.map tvals, r.length = 3 := by
  intro r hr
  obtain ⟨c, _, rfl⟩ := List.mem_map.1 hr
  rfl
theorem flat_length (l : List T3) : (flat l).length = l.length * 3 := by unfold flat; rw [flatten_len _ (tvals_len l), List.length_map]
theorem flat_get {l : List T3} {i : Nat} (h : i < l.length) {j : Nat} (hj : j < 3) : (flat l)[i * 3 + j]? = (tvals (g l i))[j]? := by
  have hr : (l.map tvals)[i]? = some (tvals (g l i)) := by rw [List.getElem?_map, g_get h]; rfl
  have hj' : j < (tvals (g l i)).length := hj
  rw [List.getElem?_eq_getElem hj']
  exact flatten_get _ (tvals_len l) i _ hr j _ (List.getElem?_eq_getElem hj')
theorem flat_cells (l : List T3) : ∀ u ∈ flat l, u.oneCell' = true := by
  intro u hu
  obtain ⟨r, hr, hu⟩ := List.mem_flatten.1 hu
  obtain ⟨c, _, rfl⟩ := List.mem_map.1 hr
  simp only [tvals, List.mem_cons, List.not_mem_nil, or_false] at hu
  rcases hu with rfl | rfl | rfl <;> rfl
/-- The three cells of element k, written over, one behind the other. -/
theorem flat_set : ∀ (l : List T3) (k : Nat) (_ : k < l.length) (c : T3), (((flat l).set (k * 3) (.int .i64 c.a)).set (k * 3 + 1) (.int .i64 c.b)).set (k * 3 + 2) (.int .i64 c.c) = flat (l.set k c)
  | x :: l, 0, _, c => by
    show _ = tvals c ++ flat l
    rw [flat_cons]
    rfl
  | x :: l, k + 1, h, c => by
    have ih := flat_set l k (by simpa using h) c
    show _ = tvals x ++ flat (l.set k c)
    rw [← ih, flat_cons]
    have hx : (tvals x).length = 3 := rfl
    have e : ∀ (j : Nat) (t : List Value) (v : Value), (tvals x ++ t).set ((k + 1) * 3 + j) v = tvals x ++ t.set (k * 3 + j) v := by
      intro j t v
      rw [List.set_append_right _ _ (by rw [hx]; omega), hx, show (k + 1) * 3 + j - 3 = k * 3 + j from by omega]
    have e0 : ∀ (t : List Value) (v : Value), (tvals x ++ t).set ((k + 1) * 3) v = tvals x ++ t.set (k * 3) v := e 0
    rw [e0, e, e]
theorem map_getD {l : List T3} {k : Nat} (h : k < l.length) : (l.map tvals).getD k [] = tvals (g l k) := by
  rw [List.getD, List.getElem?_map, g_get h]; rfl
theorem take_succ_g {l : List T3} {k : Nat} (h : k < l.length) : l.take (k + 1) = l.take k ++ [g l k] := by
  rw [List.take_succ_eq_append_getElem h, g_eq h]
end Tri
end Go.Proofs.YtkkpdfjbgiijlaaDoor
