/- Joined texts: PrnPlain. -/
import Derived.Test.YtceaoadlhdgnmaaGreatDoorK17
section
/- A line feed, as a function on screens; what comes may be. No program stands in this text but by its library's names. -/
namespace Go.Proofs.YtceaoadlhdgnmaaGreatDoor
namespace Scr
open Go.Proofs.YtceaoadlhdgnmaaGreatDoor.Row

/-- Its seen grid is another. -/
def putG (s : S) (G : Gr) : S := if s.swapped then { s with other := G } else { s with main := G }
def moveG (G : Gr) (top bot n : Int) (a : Look) : Gr := ⟨G.rows, G.cols, (moved (rowsOf G.cols.toNat G.rows.toNat G.cells) top.toNat bot.toNat n G.cols.toNat a).flatten⟩
def noWrap (s : S) : S := { s with cur := { s.cur with wrap := false } }
def atRow (s : S) (n : Int) : S := { s with cur := { s.cur with row := n } }
def downS (s : S) : S := if s.cur.row = s.bottom then putG (noWrap s) (moveG (seenG s) s.top s.bottom 1 s.cur.a) else atRow (noWrap s) (min (s.cur.row + 1) (s.main.rows - 1))
def backS (s : S) : S := if s.cur.row = s.top then putG (noWrap s) (moveG (seenG s) s.top s.bottom (-1) s.cur.a) else atRow (noWrap s) (max (s.cur.row - 1) 0)
theorem moveG_parts {R C : Nat} {rs : List (List Cl)} (h : Rws R C rs) (top bot n : Int) (a : Look) : moveG ⟨R, C, rs.flatten⟩ top bot n a = ⟨R, C, (moved rs top.toNat bot.toNat n C a).flatten⟩ := by
  unfold moveG
  show (⟨(R : Int), (C : Int), (moved (rowsOf ((C : Int).toNat) ((R : Int).toNat) rs.flatten) top.toNat bot.toNat n ((C : Int).toNat) a).flatten⟩ : Gr) = _
  rw [Int.toNat_natCast, Int.toNat_natCast, ← h.len, rowsOf_flatten h.even]
def numB (n : Int) : Bool := decide (-1 ≤ n) && decide (n ≤ 9999)
theorem numB_iff {n : Int} : numB n = true ↔ -1 ≤ n ∧ n ≤ 9999 := by unfold numB; rw [Bool.and_eq_true, decide_eq_true_eq, decide_eq_true_eq]
/-- What is known of a screen that may be. -/
structure Facts (s : S) : Prop where
  r1 : 1 ≤ s.main.rows
  r40 : s.main.rows ≤ 40
  c1 : 1 ≤ s.main.cols
  c40 : s.main.cols ≤ 40
  row0 : 0 ≤ s.cur.row
  row1 : s.cur.row ≤ s.main.rows - 1
  col0 : 0 ≤ s.cur.col
  col1 : s.cur.col ≤ s.main.cols - 1
  top0 : 0 ≤ s.top
  tb : s.top ≤ s.bottom
  bot : s.bottom < s.main.rows
  a : attrOk s.cur.a = true
  g : gridB (seenG s) = true
  gr : (seenG s).rows = s.main.rows
  gc : (seenG s).cols = s.main.cols
theorem margins_iff {t b r : Int} (h : marginsB t b r = true) (hr : 1 ≤ r) : 0 ≤ t ∧ t ≤ b ∧ b < r := by
  have h1 := hr
  unfold marginsB at h
  by_cases e : r = 1
  · rw [if_pos e, Bool.and_eq_true, beq_iff_eq, beq_iff_eq] at h; omega
  · rw [if_neg e, Bool.and_eq_true, Bool.and_eq_true, decide_eq_true_eq, decide_eq_true_eq, decide_eq_true_eq] at h; omega
theorem Ok.facts {s : S} (h : Ok s) : Facts s := by
  have hs := gridB_sides h.m
  have hm := margins_iff h.g hs.1.1
  have hk := h.k1
  unfold cursorB at hk
  simp only [Bool.and_eq_true] at hk
  have h1 := rng_iff.1 hk.1
  have h2 := rng_iff.1 hk.2.1
  refine ⟨hs.1.1, hs.1.2, hs.2.1, hs.2.2, h1.1, h1.2, h2.1, h2.2, hm.1, hm.2.1, hm.2.2, hk.2.2.2.1, ?_, ?_, ?_⟩
  · unfold seenG; cases s.swapped
    · exact h.m
    · exact h.o
  · unfold seenG; cases s.swapped
    · rfl
    · exact h.r
  · unfold seenG; cases s.swapped
    · rfl
    · exact h.c
theorem noWrap_ok {s : S} (h : Ok s) : Ok (noWrap s) := by
  refine ⟨h.m, h.o, h.r, h.c, ?_, h.k2, h.k3, h.g, h.b, h.n, h.t, h.l⟩
  have hk := h.k1
  unfold cursorB at hk
  unfold cursorB noWrap
  simp only [Bool.and_eq_true] at hk ⊢
  exact ⟨hk.1, hk.2.1, rfl, hk.2.2.2⟩
theorem putG_ok {s : S} (h : Ok s) {G : Gr} (hg : gridB G = true) (hr : G.rows = s.main.rows) (hc : G.cols = s.main.cols) : Ok (putG s G) := by
  unfold putG
  cases s.swapped
  · exact ⟨hg, h.o, h.r.trans hr.symm, h.c.trans hc.symm, by rw [if_neg (by simp)]; show cursorB s.cur (G.rows - 1) (G.cols - 1) = true; rw [hr, hc]; exact h.k1, by rw [if_neg (by simp)]; show cursorB s.saved (G.rows - 1) (G.cols - 1) = true; rw [hr, hc]; exact h.k2, by rw [if_neg (by simp)]; show cursorB s.too (G.rows - 1) (G.cols - 1) = true; rw [hr, hc]; exact h.k3, by rw [if_neg (by simp)]; show marginsB s.top s.bottom G.rows = true; rw [hr]; exact h.g, by rw [if_neg (by simp)]; show (s.tabs.length : Int) = G.cols; rw [hc]; exact h.b, h.n, h.t, h.l⟩
  · exact ⟨h.m, hg, hr, hc, h.k1, h.k2, h.k3, h.g, h.b, h.n, h.t, h.l⟩
theorem Ok.lens {s : S} (h : Ok s) : s.main.cells.length ≤ 1000000 ∧ s.other.cells.length ≤ 1000000 ∧ s.tabs.length ≤ 1000000 := by
  have h1 := gridB_small h.m
  have h2 := gridB_small h.o
  have h3 := h.b
  have h4 := (gridB_sides h.m).2.2
  omega
end Scr
end Go.Proofs.YtceaoadlhdgnmaaGreatDoor
end
