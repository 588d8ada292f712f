/- Rows moved, as lists: what is joined of parts is what the page's moves are; down undoes up. No program stands in this text. -/
import Derived.Test.YthkfcfmnccfbnaaGrdPlain
namespace Go.Proofs.Ythkfcfmnccfbnaa
namespace Row

theorem rowOf_append_left {a b : List (List Cl)} {i : Nat} (h : i < a.length) : rowOf (a ++ b) i = rowOf a i := by
  simp [rowOf, List.getElem?_append_left h]
theorem rowOf_append_right {a b : List (List Cl)} {i : Nat} (h : a.length ≤ i) : rowOf (a ++ b) i = rowOf b (i - a.length) := by
  simp [rowOf, List.getElem?_append_right h]
theorem rowOf_take {a : List (List Cl)} {i k : Nat} (h : i < k) : rowOf (a.take k) i = rowOf a i := by
  simp [rowOf, h]
theorem rowOf_drop (a : List (List Cl)) (k i : Nat) : rowOf (a.drop k) i = rowOf a (k + i) := by
  simp [rowOf]
theorem rowOf_rep {n i : Nat} (r : List Cl) (h : i < n) : rowOf (List.replicate n r) i = r := by
  simp [rowOf, h]
theorem moved_length (rs : List (List Cl)) (top bot : Nat) (n : Int) (c : Nat) (a : Look) : (moved rs top bot n c a).length = rs.length := by
  unfold moved; rw [List.length_map, List.length_range]
theorem rowOf_moved {rs : List (List Cl)} {top bot : Nat} {n : Int} {c : Nat} {a : Look} {i : Nat} (h : i < rs.length) : rowOf (moved rs top bot n c a) i = movedRow rs top bot n c a i := by
  unfold moved; rw [rowOf_map _ h]
def upRows (rs : List (List Cl)) (top bot m c : Nat) (a : Look) : List (List Cl) :=
  rs.take top ++ ((rs.drop (top + m)).take (bot + 1 - (top + m)) ++ (List.replicate m (blankRow c a) ++ rs.drop (bot + 1)))
def downRows (rs : List (List Cl)) (top bot m c : Nat) (a : Look) : List (List Cl) :=
  rs.take top ++ (List.replicate m (blankRow c a) ++ ((rs.drop top).take (bot + 1 - m - top) ++ rs.drop (bot + 1)))
theorem up_rows {rs : List (List Cl)} {top bot m n c : Nat} {a : Look} (ht : top ≤ bot) (hb : bot < rs.length) (hm : m = min n (bot + 1 - top)) : upRows rs top bot m c a = moved rs top bot n c a := by
  have l1 : (rs.take top).length = top := by rw [List.length_take]; omega
  have l2 : ((rs.drop (top + m)).take (bot + 1 - (top + m))).length = bot + 1 - (top + m) := by rw [List.length_take, List.length_drop]; omega
  have l3 : (List.replicate m (blankRow c a)).length = m := List.length_replicate
  have l4 : (rs.drop (bot + 1)).length = rs.length - (bot + 1) := List.length_drop
  have hl : (upRows rs top bot m c a).length = rs.length := by unfold upRows; simp only [List.length_append, l1, l2, l3, l4]; omega
  refine rows_ext (by rw [hl, moved_length]) fun i hi => ?_
  rw [hl] at hi
  rw [rowOf_moved hi]
  unfold upRows movedRow
  by_cases h1 : i < top
  · rw [rowOf_append_left (by omega), rowOf_take h1, if_neg (by omega)]
  · rw [rowOf_append_right (by omega), l1]
    by_cases h2 : i ≤ bot
    · rw [if_pos (by omega)]
      by_cases h3 : i + m ≤ bot
      · rw [rowOf_append_left (by omega), rowOf_take (by omega), rowOf_drop, if_neg (by omega)]
        congr 1; omega
      · rw [rowOf_append_right (by omega), l2, rowOf_append_left (by omega), rowOf_rep _ (by omega), if_pos (by omega)]
    · rw [if_neg (by omega), rowOf_append_right (by omega), l2, rowOf_append_right (by omega), l3, rowOf_drop]
      congr 1; omega
theorem down_rows {rs : List (List Cl)} {top bot m n c : Nat} {a : Look} (ht : top ≤ bot) (hb : bot < rs.length) (hm : m = min n (bot + 1 - top)) : downRows rs top bot m c a = moved rs top bot (-(n : Int)) c a := by
  have l1 : (rs.take top).length = top := by rw [List.length_take]; omega
  have l2 : ((rs.drop top).take (bot + 1 - m - top)).length = bot + 1 - m - top := by rw [List.length_take, List.length_drop]; omega
  have l3 : (List.replicate m (blankRow c a)).length = m := List.length_replicate
  have l4 : (rs.drop (bot + 1)).length = rs.length - (bot + 1) := List.length_drop
  have hl : (downRows rs top bot m c a).length = rs.length := by unfold downRows; simp only [List.length_append, l1, l2, l3, l4]; omega
  refine rows_ext (by rw [hl, moved_length]) fun i hi => ?_
  rw [hl] at hi
  rw [rowOf_moved hi]
  unfold downRows movedRow
  by_cases h1 : i < top
  · rw [rowOf_append_left (by omega), rowOf_take h1, if_neg (by omega)]
  · rw [rowOf_append_right (by omega), l1]
    by_cases h2 : i ≤ bot
    · rw [if_pos (by omega)]
      by_cases h3 : i < top + m
      · rw [rowOf_append_left (by omega), rowOf_rep _ (by omega), if_pos (by omega)]
      · rw [rowOf_append_right (by omega), l3, rowOf_append_left (by omega), rowOf_take (by omega), rowOf_drop, if_neg (by omega)]
        congr 1; omega
    · rw [if_neg (by omega), rowOf_append_right (by omega), l3, rowOf_append_right (by omega), l2, rowOf_drop]
      congr 1; omega
/-- Moved up by n and down again, what lies n below the top is where it was. -/
theorem back_rows {rs : List (List Cl)} {n c : Nat} {a : Look} {i : Nat} (hn : n ≤ i) (hi : i < rs.length) :
    rowOf (moved (moved rs 0 (rs.length - 1) n c a) 0 (rs.length - 1) (-(n : Int)) c a) i = rowOf rs i := by
  rw [rowOf_moved (by rw [moved_length]; exact hi)]
  unfold movedRow
  rw [if_pos (by omega), if_neg (by omega), rowOf_moved (by omega)]
  unfold movedRow
  rw [if_pos (by omega), if_neg (by omega)]
  congr 1; omega
end Row
end Go.Proofs.Ythkfcfmnccfbnaa
