/- What EditBeside's walk needs: the eight keys, two grids that are alike outside some rows, four boxes under way. -/
import Derived.Test.YtceaoadlhdgnmaaGreatDoorMRestS
import Derived.Test.YtceaoadlhdgnmaaGreatDoorM406
import Derived.Test.YtceaoadlhdgnmaaGreatDoorEdQuad
import Derived.Test.YtceaoadlhdgnmaaGreatDoorM110
import Derived.Test.YtceaoadlhdgnmaaGreatDoorM211
import Derived.Test.YtceaoadlhdgnmaaGreatDoorM118
namespace Go.Proofs.YtceaoadlhdgnmaaGreatDoor
set_option maxRecDepth 100000
open Go.RowKit
namespace Scr
open Go.Proofs.YtceaoadlhdgnmaaGreatDoor.Row

def besL : List Int := [75, 88, 80, 64, 76, 77, 83, 84]
abbrev besbox : Obj := .cells #[.int .i64 75, .int .i64 88, .int .i64 80, .int .i64 64, .int .i64 76, .int .i64 77, .int .i64 83, .int .i64 84] 3
theorem besbox_kv (w : World) : Kv (w.alloc besbox) w.heap.size besL := by
  have hx : (w.alloc besbox).heap[w.heap.size]? = some besbox := heap_alloc_new _ _
  intro i hi
  have h8 : i = 0 ∨ i = 1 ∨ i = 2 ∨ i = 3 ∨ i = 4 ∨ i = 5 ∨ i = 6 ∨ i = 7 := by
    have : besL.length = 8 := rfl
    omega
  rcases h8 with rfl | rfl | rfl | rfl | rfl | rfl | rfl | rfl
  · exact Blk.cell hx 0
  · exact Blk.cell hx 1
  · exact Blk.cell hx 2
  · exact Blk.cell hx 3
  · exact Blk.cell hx 4
  · exact Blk.cell hx 5
  · exact Blk.cell hx 6
  · exact Blk.cell hx 7
theorem bes_keys : ∀ u : Fin 8, ekeyB (besL.getD u.val 0) = true ∧ (besL.getD u.val 0 ∈ [75, 88, 80, 64, 76, 77, 83, 84]) ∧ (decide (besL.getD u.val 0 = 76 ∨ besL.getD u.val 0 = 77 ∨ besL.getD u.val 0 = 83 ∨ besL.getD u.val 0 = 84) = decide (3 < u.val)) := by decide
theorem bes_low {s : S} {u : Nat} (hu : u < 8) : lowS s (besL.getD u 0) = (if 3 < u then s.top else s.cur.row) ∧ highS s (besL.getD u 0) = (if 3 < u then s.bottom else s.cur.row) := by
  have h := (bes_keys ⟨u, hu⟩).2.2
  have h := decide_eq_decide.1 h
  unfold lowS highS
  by_cases c : 3 < u
  · rw [if_pos (h.2 c), if_pos c, if_pos (h.2 c), if_pos c]; exact ⟨rfl, rfl⟩
  · rw [if_neg (fun q => c (h.1 q)), if_neg c, if_neg (fun q => c (h.1 q)), if_neg c]; exact ⟨rfl, rfl⟩
theorem cell_row {l : List Cl} {c i : Nat} (hc : 0 < c) : g l i = g (Row.rowAt l c (i / c)) (i % c) := by
  unfold Row.rowAt g
  rw [List.getD_eq_getElem?_getD, List.getD_eq_getElem?_getD, List.getElem?_take, if_pos (Nat.mod_lt _ hc), List.getElem?_drop]
  have := Nat.div_add_mod i c
  rw [Nat.mul_comm] at this
  rw [this]
/-- A cell outside is the same. -/
theorem Bes.cell {G H : Gr} {low high : Int} (h : Bes G H low high) (hc : 0 < G.cols.toNat) {i : Nat} (hi : ((i / G.cols.toNat : Nat) : Int) < G.rows) (ho : ((i / G.cols.toNat : Nat) : Int) < low ∨ high < ((i / G.cols.toNat : Nat) : Int)) : g H.cells i = g G.cells i := by
  have q := h.at_ _ hi ho
  unfold rowG at q
  rw [h.c] at q
  rw [cell_row (l := H.cells) hc, cell_row (l := G.cells) hc, q]
def hidX (s : S) (x y : Value) : Value := if s.swapped then x else y
/-- The four boxes, sorted: seen and hidden of both. -/
structure Sorted (s X : S) (sx sy x y : Value) (b0 b1 b2 b3 : Nat) (w : World) : Prop where
  x0 : w.heap[b0]? = some (gbox (seenG s).rows (seenG s).cols (seenX s sx sy))
  x1 : w.heap[b1]? = some (gbox (seenG X).rows (seenG X).cols (seenX X x y))
  x2 : w.heap[b2]? = some (gbox (hidG s).rows (hidG s).cols (hidX s sx sy))
  x3 : w.heap[b3]? = some (gbox (hidG X).rows (hidG X).cols (hidX X x y))
theorem Sorted.kept {s X : S} {sx sy x y : Value} {b0 b1 b2 b3 : Nat} {w w' : World} (h : Sorted s X sx sy x y b0 b1 b2 b3 w) (hb : Below w.heap.size w w') : Sorted s X sx sy x y b0 b1 b2 b3 w' :=
  ⟨Blk.kept h.x0 hb, Blk.kept h.x1 hb, Blk.kept h.x2 hb, Blk.kept h.x3 hb⟩
def gs4 (s X : S) (sx sy x y : Value) : Nat → Quad.Gv
  | 0 => ⟨s.main.rows, s.main.cols, sx⟩
  | 1 => ⟨X.main.rows, X.main.cols, x⟩
  | 2 => ⟨s.other.rows, s.other.cols, sy⟩
  | _ => ⟨X.other.rows, X.other.cols, y⟩
theorem sorted_no {s X : S} {sx sy x y : Value} {b0 b1 b2 b3 : Nat} {w0 w : World} (h : Quad.Fin4 w0 (gs4 s X sx sy x y) b0 b1 b2 b3 w) (hs : s.swapped = false) (hX : X.swapped = s.swapped) : Sorted s X sx sy x y b0 b1 b2 b3 w := by
  rw [hs] at hX
  refine ⟨?_, ?_, ?_, ?_⟩
  · unfold seenG seenX; rw [if_neg (by rw [hs]; decide), if_neg (by rw [hs]; decide)]; exact h.x0
  · unfold seenG seenX; rw [if_neg (by rw [hX]; decide), if_neg (by rw [hX]; decide)]; exact h.x1
  · unfold hidG hidX; rw [if_neg (by rw [hs]; decide), if_neg (by rw [hs]; decide)]; exact h.x2
  · unfold hidG hidX; rw [if_neg (by rw [hX]; decide), if_neg (by rw [hX]; decide)]; exact h.x3
def swap4 (s X : S) (sx sy x y : Value) (b0 b1 b2 b3 : Nat) (w : World) : World :=
  gput (gput (gput (gput w b0 s.other.rows s.other.cols sy) b1 X.other.rows X.other.cols y) b2 s.main.rows s.main.cols sx) b3 X.main.rows X.main.cols x
theorem sorted_yes {s X : S} {sx sy x y : Value} {b0 b1 b2 b3 : Nat} {w0 w : World} (h : Quad.Fin4 w0 (gs4 s X sx sy x y) b0 b1 b2 b3 w) (hs : s.swapped = true) (hX : X.swapped = s.swapped) : Sorted s X sx sy x y b0 b1 b2 b3 (swap4 s X sx sy x y b0 b1 b2 b3 w) ∧ Below w0.heap.size w0 (swap4 s X sx sy x y b0 b1 b2 b3 w) := by
  rw [hs] at hX
  obtain ⟨n1, n2, n3, n4, n5, n6⟩ := h.ne
  have y0 : w.heap[b0]? = some (gbox s.main.rows s.main.cols sx) := h.x0
  have y1 : w.heap[b1]? = some (gbox X.main.rows X.main.cols x) := h.x1
  have y2 : w.heap[b2]? = some (gbox s.other.rows s.other.cols sy) := h.x2
  have y3 : w.heap[b3]? = some (gbox X.other.rows X.other.cols y) := h.x3
  refine ⟨⟨?_, ?_, ?_, ?_⟩, gput_below (gput_below (gput_below (gput_below h.bel h.ge.1 _ _ _) h.ge.2.1 _ _ _) h.ge.2.2.1 _ _ _) h.ge.2.2.2 _ _ _⟩
  · unfold seenG seenX; rw [if_pos hs, if_pos hs]
    exact gput_other (gput_other (gput_other (gput_box y0 _ _ _) n1 _ _ _) n2 _ _ _) n3 _ _ _
  · unfold seenG seenX; rw [if_pos hX, if_pos hX]
    exact gput_other (gput_other (gput_box (gput_other y1 (Ne.symm n1) _ _ _) _ _ _) n4 _ _ _) n5 _ _ _
  · unfold hidG hidX; rw [if_pos hs, if_pos hs]
    exact gput_other (gput_box (gput_other (gput_other y2 (Ne.symm n2) _ _ _) (Ne.symm n4) _ _ _) _ _ _) n6 _ _ _
  · unfold hidG hidX; rw [if_pos hX, if_pos hX]
    exact gput_box (gput_other (gput_other (gput_other y3 (Ne.symm n3) _ _ _) (Ne.symm n5) _ _ _) (Ne.symm n6) _ _ _) _ _ _
/-- A screen of whatever memory, in a box just made. -/
theorem Ms.boxN {w W W' : World} {v : Value} {n m k r : Int} {L O : List (Nat × Sc)} (h : Ms w v n m k r L O W) {e : Sc} (hi : In W e.s e.x e.y e.z) (hs : Sto (W.alloc (.cells zarr 36)) W.heap.size (sarr e.s e.x e.y e.z) W') : Ms w v n m k r ((W.heap.size, e) :: L) O W' := by
  obtain ⟨h1, h2⟩ := bx_sto hi hs
  refine ⟨h.run.kept h2, fun p hp => ?_, fun p hp => (h.own p hp).kept h2⟩
  rcases List.mem_cons.1 hp with rfl | hp
  · exact h1.box
  · exact (h.box p hp).kept h2
theorem grid_small {G : Gr} (h : gridB G = true) : G.cells.length ≤ 1600 := by
  obtain ⟨R, C, rs, rfl, hr, _⟩ := parts_of h
  have e : rs.flatten.length = R * C := by rw [even_length hr.even, hr.len]
  show rs.flatten.length ≤ 1600
  rw [e]
  exact Nat.mul_le_mul hr.r40 hr.c40
theorem bes_len {G H : Gr} {low high : Int} (h : Bes G H low high) (hG : gridB G = true) (hH : gridB H = true) : H.cells.length = G.cells.length := by
  obtain ⟨R, C, rs, rfl, hr, _⟩ := parts_of hG
  obtain ⟨R', C', rs', rfl, hr', _⟩ := parts_of hH
  have e1 : (R' : Int) = (R : Int) := h.r
  have e2 : (C' : Int) = (C : Int) := h.c
  have f1 : R' = R := by omega
  have f2 : C' = C := by omega
  subst f1 f2
  show rs'.flatten.length = rs.flatten.length
  rw [even_length hr.even, hr.len, even_length hr'.even, hr'.len]
theorem bes_rows {G : Gr} (hG : gridB G = true) (hc : 0 < G.cols.toNat) {i : Nat} (hi : i < G.cells.length) : ((i / G.cols.toNat : Nat) : Int) < G.rows := by
  obtain ⟨R, C, rs, rfl, hr, _⟩ := parts_of hG
  have e : rs.flatten.length = R * C := by rw [even_length hr.even, hr.len]
  have hi : i < rs.flatten.length := hi
  rw [e] at hi
  have := Nat.div_lt_of_lt_mul (show i < C * R by rw [Nat.mul_comm]; exact hi)
  show ((i / C : Nat) : Int) < (R : Int)
  omega
theorem hid_ok {s : S} (h : Ok s) : gridB (hidG s) = true := by
  unfold hidG
  split
  · exact h.m
  · exact h.o
theorem cs_at {w : World} {A : Option Addr} {n c : Nat} {l : List Cl} (h : Cs w (.slice A n c) l) {k : Nat} (hk : k < l.length) : ∃ ad, A = some ad ∧ At w (ad.add (k * 6)) (cvals (g l k)) := by
  obtain ⟨A', c', e, f⟩ := h.form
  injection e with e1 e2 e3
  subst e1
  exact f k hk
theorem hidX_rm {w : World} {s : S} {x y z : Value} (h : In w s x y z) : Rm w (hidX s x y) (hidG s).cells := by
  unfold hidX hidG
  split
  · exact h.m
  · exact h.o
end Scr
end Go.Proofs.YtceaoadlhdgnmaaGreatDoor
