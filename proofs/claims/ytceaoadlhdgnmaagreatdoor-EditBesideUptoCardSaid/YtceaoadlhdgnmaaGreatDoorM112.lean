/- Joined texts: EdRef0. -/
import Derived.Test.YtceaoadlhdgnmaaGreatDoorM103
import Derived.Test.YtceaoadlhdgnmaaGreatDoorM107
import Derived.Test.YtceaoadlhdgnmaaGreatDoorM108
namespace Go.Proofs.YtceaoadlhdgnmaaGreatDoor
set_option maxRecDepth 100000
section
open Go.RowKit
namespace Scr
open Go.Proofs.YtceaoadlhdgnmaaGreatDoor.Row Wid
theorem refAtG_any (G : Gr) (v : Value) (i : Nat) (w : World) (hg : gridB G = true) (hi : (i : Int) < G.rows) (hv : Rm w v G.cells) :
    Calls Tryz.prog 88 #[gridV G v, .int .i64 i] w fun e w' => ∃ u, e = .returned u ∧ OwnCs w' w.heap.size u (rowG G i) ∧ Below w.heap.size w w' := by
  have F := rowF hg hi
  have k := refAt_any G.rows G.cols.toNat i G.cells v w F.c40 F.i40 (by rw [Nat.succ_mul]; exact F.fit) hv
  rw [F.cI] at k
  exact k
theorem refWithG_any (G : Gr) (v y : Value) (m : List Cl) (i : Nat) (w : World) (hg : gridB G = true) (hi : (i : Int) < G.rows) (hv : Rm w v G.cells) (hy : Cs w y m) (hm : m.length = G.cols.toNat) :
    Calls Tryz.prog 86 #[gridV G v, .int .i64 i, y] w fun e w' => ∃ u, e = .returned (gridV (withRow G i m) u) ∧ OwnCs w' w.heap.size u (withRow G i m).cells ∧ Below w.heap.size w w' := by
  have F := rowF hg hi
  have hs := gridB_small hg
  have k := refWith_any G.rows G.cols.toNat i G.cells m v y w F.c40 F.i40 (by rw [Nat.succ_mul]; exact F.fit) (by omega) hv.cs hy hm
  rw [F.cI] at k
  refine k.mono ?_; rintro e w' ⟨u, rfl, ho, hb⟩
  refine ⟨u, rfl, ?_, hb⟩
  have e1 : putting G.cells m (i * G.cols.toNat) G.cols.toNat = overL G.cells (i * G.cols.toNat) m := putting_over hm
  rw [e1] at ho
  exact ho
theorem Pb.seenE {w0 w : World} {s : S} {x y z v : Value} (h : Pb w0 s x y z w) {G : Gr} (hv : OwnCs w (w0.heap.size + 2) v G.cells) : Pb w0 (putG s G) (putX s x v) (putY s y v) z (pput w w0.heap.size (seatO s) G.rows G.cols v) :=
  h.only (h.pn.seen hv) (pput_below (Below.refl _ _) (Nat.le_refl _) _ _ _) (pput_only (Only.refl _ _) _ _ _)
theorem refSeenE (s : S) (x y z : Value) (b : Nat) (w : World) (h : SBox w b s x y z) : Calls Tryz.prog 79 #[.pointer (some ⟨b, 0, none⟩)] w fun e w' => e = .returned (.pointer (some ⟨b, seatO s, none⟩)) ∧ w = w' := by
  have c0 : ∀ j, w.cell? ⟨b, j, none⟩ = (sarr s x y z)[j]? := h.cell
  clear h
  cases hs : s.swapped
  · have HO : Hid (seatO s = 0) := Lib.hid (by unfold seatO; rw [hs]; rfl)
    rw [HO.out]
    go_enter Tryz.func79, Tryz.ntmps79
    go_wp2_with fail
    go_ret
    exact ⟨rfl, rfl⟩
  · have HO : Hid (seatO s = 3) := Lib.hid (by unfold seatO; rw [hs]; rfl)
    rw [HO.out]
    go_enter Tryz.func79, Tryz.ntmps79
    go_wp2_with fail
    go_ret
    exact ⟨rfl, rfl⟩
abbrev pcbx (k : Cur) : Obj := .cells #[.int .i64 k.row, .int .i64 k.col, .bool k.wrap, .int .i64 k.a.fg, .int .i64 k.a.bg, .int .i64 k.a.flags, .int .i64 k.g0, .int .i64 k.g1, .int .i64 k.shift, .bool k.origin] 33 (0, 0)
abbrev pabx (a : Look) : Obj := .cells #[.int .i64 a.fg, .int .i64 a.bg, .int .i64 a.flags] 31 (0, 0)
structure Pe (w0 : World) (s : S) (x y z : Value) (k : Cur) (bc ba : Nat) (w : World) : Prop where
  pb : Pb w0 s x y z w
  c : w.heap[bc]? = some (pcbx k)
  a : w.heap[ba]? = some (pabx k.a)
  hc : bc ≠ w0.heap.size
  ha : ba ≠ w0.heap.size
theorem Pe.kept {w0 w w' : World} {s : S} {x y z : Value} {k : Cur} {bc ba : Nat} (h : Pe w0 s x y z k bc ba w) (hb : Below w.heap.size w w') : Pe w0 s x y z k bc ba w' := ⟨h.pb.kept hb, Blk.kept h.c hb, Blk.kept h.a hb, h.hc, h.ha⟩
theorem Pe.start {w0 w : World} {s : S} {x y z : Value} (h : Pb w0 s x y z w) : Pe w0 s x y z s.cur w.heap.size (w.heap.size + 1) ((w.alloc (pcbx s.cur)).alloc (pabx s.cur.a)) := by
  have h1 := h.kept (bel_alloc w (pcbx s.cur))
  have h2 := h1.kept (bel_alloc _ (pabx s.cur.a))
  have hl := h.pn.lt; have hu := h.pn.up
  have ha : ((w.alloc (pcbx s.cur)).alloc (pabx s.cur.a)).heap[w.heap.size + 1]? = some (pabx s.cur.a) := by
    have := heap_alloc_new (w.alloc (pcbx s.cur)) (pabx s.cur.a)
    simpa using this
  exact ⟨h2, Blk.kept (heap_alloc_new w _) (bel_alloc _ _), ha, by omega, by omega⟩
theorem Pe.wrap {w0 w : World} {s : S} {x y z : Value} {k : Cur} {bc ba : Nat} (h : Pe w0 s x y z k bc ba w) : Pe w0 (noWrap s) x y z k bc ba (w.setCell ⟨w0.heap.size, 9, none⟩ (.bool false)) :=
  ⟨h.pb.wrap, Blk.other h.c h.hc _ _, Blk.other h.a h.ha _ _, h.hc, h.ha⟩
theorem Pe.seen {w0 w : World} {s : S} {x y z v : Value} {k : Cur} {bc ba : Nat} (h : Pe w0 s x y z k bc ba w) {G : Gr} (hv : OwnCs w (w0.heap.size + 2) v G.cells) : Pe w0 (putG s G) (putX s x v) (putY s y v) z k bc ba (pput w w0.heap.size (seatO s) G.rows G.cols v) :=
  ⟨h.pb.seenE hv, Blk.other (Blk.other (Blk.other h.c h.hc _ _) h.hc _ _) h.hc _ _, Blk.other (Blk.other (Blk.other h.a h.ha _ _) h.ha _ _) h.ha _ _, h.hc, h.ha⟩
theorem Pb.first0 {w0 w : World} {s : S} {x y z : Value} (h : Pb w0 s x y z w) : Pb w0 (col0 s) x y z (w.setCell ⟨w0.heap.size, 8, none⟩ (.int .i64 0)) :=
  h.only (s' := col0 s) ⟨Blk.set h.pn.box 8 _, (h.pn.own.set h.pn.lt 8 _).as _ rfl rfl rfl, h.pn.lt, by rw [size_set]; exact h.pn.up⟩ ((Below.refl w0.heap.size w).setCell (show w0.heap.size ≤ w0.heap.size by omega) _) ((Only.refl w0.heap.size w).set _ _)
theorem Pe.first0 {w0 w : World} {s : S} {x y z : Value} {k : Cur} {bc ba : Nat} (h : Pe w0 s x y z k bc ba w) : Pe w0 (Scr.col0 s) x y z k bc ba (w.setCell ⟨w0.heap.size, 8, none⟩ (.int .i64 0)) :=
  ⟨h.pb.first0, Blk.other h.c h.hc _ _, Blk.other h.a h.ha _ _, h.hc, h.ha⟩
theorem Pe.grid {w0 w : World} {s : S} {x y z : Value} {k : Cur} {bc ba : Nat} (h : Pe w0 s x y z k bc ba w) : w.cell? ⟨w0.heap.size, seatO s, none⟩ = some (.int .i64 (seenG s).rows) ∧ w.cell? ⟨w0.heap.size, seatO s + 1, none⟩ = some (.int .i64 (seenG s).cols) ∧ w.cell? ⟨w0.heap.size, seatO s + 2, none⟩ = some (seenX s x y) := by
  have q := seat_arr s x y z
  exact ⟨by rw [h.pb.pn.box.cell]; exact q.1, by rw [h.pb.pn.box.cell]; exact q.2.1, by rw [h.pb.pn.box.cell]; exact q.2.2⟩
structure Pq (w : World) (b p bc ba : Nat) (s : S) (k : Cur) : Prop where
  c0 : w.cell? ⟨bc, 0, none⟩ = some (.int .i64 k.row)
  c1 : w.cell? ⟨bc, 1, none⟩ = some (.int .i64 k.col)
  a0 : w.cell? ⟨ba, 0, none⟩ = some (.int .i64 k.a.fg)
  a1 : w.cell? ⟨ba, 1, none⟩ = some (.int .i64 k.a.bg)
  a2 : w.cell? ⟨ba, 2, none⟩ = some (.int .i64 k.a.flags)
  t : w.cell? ⟨b, 37, none⟩ = some (.int .i64 s.top)
  m : w.cell? ⟨b, 38, none⟩ = some (.int .i64 s.bottom)
  g : w.cell? ⟨b, p + 1, none⟩ = some (.int .i64 (seenG s).cols)
theorem Pe.q {w0 w : World} {s : S} {x y z : Value} {k : Cur} {bc ba : Nat} (h : Pe w0 s x y z k bc ba w) : Pq w w0.heap.size (seatO s) bc ba s k :=
  ⟨Blk.cell h.c 0, Blk.cell h.c 1, Blk.cell h.a 0, Blk.cell h.a 1, Blk.cell h.a 2, h.pb.pn.box.cell 37, h.pb.pn.box.cell 38, h.grid.2.1⟩
theorem seatO_le (s : S) : seatO s ≤ 3 := by unfold seatO; split <;> omega
theorem Pe.rm {w0 w : World} {s : S} {x y z : Value} {k : Cur} {bc ba : Nat} (h : Pe w0 s x y z k bc ba w) : Rm w (seenX s x y) (seenG s).cells := seenX_rm h.pb.pn.own.in_
end Scr
end
end Go.Proofs.YtceaoadlhdgnmaaGreatDoor
