/- Cells of grids by their rows; that a grid that may be has short texts; what lies below, moved up and down, is the same. -/
import Derived.Test.YthkfcfmnccfbnaaRowShort
import Derived.Test.YthkfcfmnccfbnaaGrdMoveP
namespace Go.Proofs.Ythkfcfmnccfbnaa
set_option maxRecDepth 100000
open Go.RowKit
namespace Row

theorem flat_g {c : Nat} : ∀ {rs : List (List Cl)} (_ : Even c rs) (q j : Nat), q < rs.length → j < c → g rs.flatten (q * c + j) = g (rowOf rs q) j
  | [], _, q, j, h, _ => absurd h (by simp)
  | r :: rs, he, 0, j, _, hj => by
    rw [List.flatten_cons, Nat.zero_mul, Nat.zero_add, g_append_left (by rw [he.head]; exact hj)]; rfl
  | r :: rs, he, q + 1, j, h, hj => by
    rw [List.flatten_cons, g_append_right (by rw [he.head, Nat.succ_mul]; omega), he.head, show (q + 1) * c + j - c = q * c + j from by rw [Nat.succ_mul]; omega, flat_g he.tail q j (by simpa using h) hj]
    rfl
theorem split_at {c n i : Nat} (h : i < n * c) : ∃ q j, q < n ∧ j < c ∧ i = q * c + j := by
  have hc : 0 < c := by
    rcases Nat.eq_zero_or_pos c with e | e
    · subst e; simp at h
    · exact e
  refine ⟨i / c, i % c, Nat.div_lt_of_lt_mul (by rw [Nat.mul_comm]; exact h), Nat.mod_lt _ hc, ?_⟩
  have := Nat.div_add_mod i c
  rw [Nat.mul_comm c] at this
  omega
theorem Rws.short {R C : Nat} {rs : List (List Cl)} (h : Rws R C rs) : ∀ i, i < rs.flatten.length → (g rs.flatten i).comb.length ≤ 8 := by
  intro i hi
  rw [even_length h.even, h.len] at hi
  obtain ⟨q, j, hq, hj, rfl⟩ := split_at hi
  rw [flat_g h.even q j (by rw [h.len]; exact hq) hj]
  exact good_texts (h.ok q hq).2.2 j (by rw [h.rlen hq]; exact hj)
theorem Rws.held {R C : Nat} {rs : List (List Cl)} (h : Rws R C rs) : Held rs.flatten := fun i hi => by have := h.short i hi; omega
theorem back_cells {R C : Nat} {rs : List (List Cl)} (h : Rws R C rs) {n : Nat} {a : Look} (ha : attrOk a = true) {i : Nat} (h1 : n * C ≤ i) (h2 : i < R * C) :
    g (moved (moved rs 0 (R - 1) n C a) 0 (R - 1) (-(n : Int)) C a).flatten i = g rs.flatten i := by
  have hR := h.r1
  have m1 := moved_rws h (top := 0) (bot := R - 1) (by omega) (n : Int) ha
  have m2 := moved_rws m1 (top := 0) (bot := R - 1) (by omega) (-(n : Int)) ha
  obtain ⟨q, j, hq, hj, rfl⟩ := split_at h2
  have hnq : n ≤ q := by
    rcases Nat.lt_or_ge q n with e | e
    · exfalso
      have : (q + 1) * C ≤ n * C := Nat.mul_le_mul_right C e
      rw [Nat.succ_mul] at this
      omega
    · exact e
  rw [flat_g m2.even q j (by rw [m2.len]; exact hq) hj, flat_g h.even q j (by rw [h.len]; exact hq) hj]
  have := back_rows (rs := rs) (n := n) (c := C) (a := a) hnq (by rw [h.len]; exact hq)
  rw [h.len] at this
  rw [this]
end Row
end Go.Proofs.Ythkfcfmnccfbnaa
