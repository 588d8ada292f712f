/- What the statements share on cells: equal, written over; a blank, a second half; a cell stored into a row of the call's own. -/
import Derived.Test.YthkfcfmnccfbnaaRowMem
namespace Go.Proofs.Ythkfcfmnccfbnaa
set_option maxRecDepth 100000
open Go.RowKit
namespace Row

theorem OwnCs.n {w : World} {base b n cap : Nat} {l : List Cl} (h : OwnCs w base (.slice (some ⟨b, 0, none⟩) n cap) l) : n = l.length := by
  rcases h.shape with ⟨e, _⟩ | ⟨_, _, e, _⟩
  · injection e with e; cases e
  · injection e
theorem OwnCs.cell {w : World} {base b n cap : Nat} {l : List Cl} (h : OwnCs w base (.slice (some ⟨b, 0, none⟩) n cap) l) {k j : Nat} (hk : k < l.length) (hj : j < 6) :
    w.cell? ⟨b, k * 6 + j, none⟩ = (cvals (g l k))[j]? := by
  have hn : n = l.length := h.n
  subst hn
  rw [World.ownsRow.cellAt h (k * 6 + j) (by omega), flat_get hk hj]
theorem OwnCs.free {w : World} {base b n cap : Nat} {l : List Cl} (h : OwnCs w base (.slice (some ⟨b, 0, none⟩) n cap) l) (j : Nat) : w.frozen? ⟨b, j, none⟩ = false := by
  have hn : n = l.length := h.n
  subst hn
  exact World.ownsRow.frozenAt h j
/-- The world in which element k holds c. -/
def putCell (w : World) (b k : Nat) (c : Cl) : World :=
  (((((w.setCell ⟨b, k * 6, none⟩ (.int .i64 c.rune)).setCell ⟨b, k * 6 + 1, none⟩ (.string ⟨c.comb.toArray⟩)).setCell ⟨b, k * 6 + 2, none⟩ (.int .i64 c.wide)).setCell ⟨b, k * 6 + 3, none⟩ (.int .i64 c.a.fg)).setCell ⟨b, k * 6 + 4, none⟩ (.int .i64 c.a.bg)).setCell ⟨b, k * 6 + 5, none⟩ (.int .i64 c.a.flags)
theorem OwnCs.put {w : World} {base b n cap : Nat} {l : List Cl} (h : OwnCs w base (.slice (some ⟨b, 0, none⟩) n cap) l) {k : Nat} (hk : k < l.length) (c : Cl) :
    OwnCs (putCell w b k c) base (.slice (some ⟨b, 0, none⟩) n cap) (l.set k c) := by
  have hn : n = l.length := h.n
  subst hn
  have s0 := World.ownsRow.stored h (k * 6) (.int .i64 c.rune)
  have s1 := s0.1.stored (k * 6 + 1) (.string ⟨c.comb.toArray⟩)
  have s2 := s1.1.stored (k * 6 + 2) (.int .i64 c.wide)
  have s3 := s2.1.stored (k * 6 + 3) (.int .i64 c.a.fg)
  have s4 := s3.1.stored (k * 6 + 4) (.int .i64 c.a.bg)
  have s5 := s4.1.stored (k * 6 + 5) (.int .i64 c.a.flags)
  have e := s5.1
  rw [flat_set l k hk c] at e
  unfold OwnCs
  rw [List.length_set]
  exact e
theorem below_put {B b : Nat} {a w : World} (h : Below B a w) (hB : B ≤ b) (k : Nat) (c : Cl) : Below B a (putCell w b k c) :=
  (((((h.setCell hB _).setCell hB _).setCell hB _).setCell hB _).setCell hB _).setCell hB _

set_option maxHeartbeats 800000 in
theorem eqCells_same (l : List Cl) (x y : Value) (w : World) (hx : Cs w x l) (hy : Cs w y l) (hn : l.length ≤ 100000000) :
    Calls Try.prog 22 #[x, y] w fun e w' => e = .returned (.bool true) ∧ ∃ q, w' = w.drewN q := by
  obtain ⟨A, c, rfl, ha⟩ := hx.form
  obtain ⟨A', c', rfl, hb⟩ := hy.form
  have ha' := Lib.hid ha
  have hb' := Lib.hid hb
  clear ha hb hx hy
  go_enter Try.func22, Try.ntmps22
  go_wp2_with fail
  go_loopw [5] (fun i wr => ∃ k q : Nat, k ≤ l.length ∧ i = .int .i64 k ∧ wr = w.drewN q) (fun i _ => l.length - (intOf i).toNat)
  case atStart => exact ⟨0, 0, by omega, rfl, rfl⟩
  case round =>
    obtain ⟨k, q, hk, rfl, rfl⟩ := hrel
    by_cases hlt : k < l.length
    · obtain ⟨ad, rfl, K⟩ := ha'.out k hlt
      obtain ⟨ad', rfl, K'⟩ := hb'.out k hlt
      generalize g l k = ev at K K'
      obtain ⟨rune, cb, wide, ⟨fg, bg, fl⟩⟩ := ev
      have h0 := K.head
      have h1 := K.next 0 rfl
      have h2 := K.next 1 rfl
      have h3 := K.next 2 rfl
      have h4 := K.next 3 rfl
      have h5 := K.next 4 rfl
      have i0 := K'.head
      have i1 := K'.next 0 rfl
      have i2 := K'.next 1 rfl
      have i3 := K'.next 2 rfl
      have i4 := K'.next 3 rfl
      have i5 := K'.next 4 rfl
      clear K K'
      go_wp2_with fail
      go_quiet (fail)
      go_wp2_with fail
      go_roundw
      case rel => exact ⟨k + 1, _, by omega, by go_num, rfl⟩
      case measure => simp [intOf]; omega
    · go_wp2_with fail
      go_ret
      exact ⟨rfl, _, rfl⟩

set_option maxHeartbeats 400000 in
theorem blank_any (a : Look) (w : World) : Calls Try.prog 49 #[.agg #[.int .i64 a.fg, .int .i64 a.bg, .int .i64 a.flags]] w fun e w' => e = .returned (cagg (blank a)) ∧ Below w.heap.size w w' := by
  go_enter Try.func49, Try.ntmps49
  go_wp2_with fail
  go_returns
  exact ⟨rfl, by repeat (first | exact Below.refl _ _ | refine Below.alloc ?_ (Nat.le_refl _) _ | refine Below.alloc ?_ (by simp) _ | refine Below.setCell ?_ (by simp) _)⟩
set_option maxHeartbeats 400000 in
theorem sec_any (a : Look) (w : World) : Calls Try.prog 36 #[.agg #[.int .i64 a.fg, .int .i64 a.bg, .int .i64 a.flags]] w fun e w' => e = .returned (cagg (sec a)) ∧ Below w.heap.size w w' := by
  go_enter Try.func36, Try.ntmps36
  go_wp2_with fail
  go_returns
  exact ⟨rfl, by repeat (first | exact Below.refl _ _ | refine Below.alloc ?_ (Nat.le_refl _) _ | refine Below.alloc ?_ (by simp) _ | refine Below.setCell ?_ (by simp) _)⟩
theorem box_cells {w : World} {b : Nat} {a : Look} (h : w.heap[b]? = some (.cells #[.int .i64 a.fg, .int .i64 a.bg, .int .i64 a.flags] 33 (0, 0))) :
    w.cell? ⟨b, 0, none⟩ = some (.int .i64 a.fg) ∧ w.cell? ⟨b, 1, none⟩ = some (.int .i64 a.bg) ∧ w.cell? ⟨b, 2, none⟩ = some (.int .i64 a.flags) :=
  ⟨Blk.cell h 0, Blk.cell h 1, Blk.cell h 2⟩

end Row
end Go.Proofs.Ythkfcfmnccfbnaa
