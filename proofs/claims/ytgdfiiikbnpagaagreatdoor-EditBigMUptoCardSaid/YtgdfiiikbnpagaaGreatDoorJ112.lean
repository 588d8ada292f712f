/- Joined texts: EdRef0, EdSpan. -/
import Derived.Test.YtgdfiiikbnpagaaGreatDoorJ103
import Derived.Test.YtgdfiiikbnpagaaGreatDoorJ107
import Derived.Test.YtgdfiiikbnpagaaGreatDoorJ108
section
/- A grid's row taken, put, erased: the page's, by grids that may be; one row of a screen erased is all that is erased. -/
namespace Go.Proofs.YtgdfiiikbnpagaaGreatDoor
set_option maxRecDepth 100000
open Go.RowKit
namespace Scr
open Go.Proofs.YtgdfiiikbnpagaaGreatDoor.Row Wid

theorem refAtG_any (G : Gr) (v : Value) (i : Nat) (w : World) (hg : gridB G = true) (hi : (i : Int) < G.rows) (hv : Rm w v G.cells) :
    Calls Tryz.prog 52 #[gridV G v, .int .i64 i] w fun e w' => ∃ u, e = .returned u ∧ OwnCs w' w.heap.size u (rowG G i) ∧ Below w.heap.size w w' := by
  have F := rowF hg hi
  have k := refAt_any G.rows G.cols.toNat i G.cells v w F.c40 F.i40 (by rw [Nat.succ_mul]; exact F.fit) hv
  rw [F.cI] at k
  exact k
theorem refWithG_any (G : Gr) (v y : Value) (m : List Cl) (i : Nat) (w : World) (hg : gridB G = true) (hi : (i : Int) < G.rows) (hv : Rm w v G.cells) (hy : Cs w y m) (hm : m.length = G.cols.toNat) :
    Calls Tryz.prog 50 #[gridV G v, .int .i64 i, y] w fun e w' => ∃ u, e = .returned (gridV (withRow G i m) u) ∧ OwnCs w' w.heap.size u (withRow G i m).cells ∧ Below w.heap.size w w' := by
  have F := rowF hg hi
  have hs := gridB_small hg
  have k := refWith_any G.rows G.cols.toNat i G.cells m v y w F.c40 F.i40 (by rw [Nat.succ_mul]; exact F.fit) (by omega) hv.cs hy hm
  rw [F.cI] at k
  refine k.mono ?_; rintro e w' ⟨u, rfl, ho, hb⟩
  refine ⟨u, rfl, ?_, hb⟩
  have e1 : putting G.cells m (i * G.cols.toNat) G.cols.toNat = overL G.cells (i * G.cols.toNat) m := putting_over hm
  rw [e1] at ho
  exact ho
theorem refMoveE_any (G : Gr) (v : Value) (top bot n : Int) (a : Look) (w : World) (hg : gridB G = true) (hv : Rm w v G.cells) (h0 : 0 ≤ top) (h1 : top ≤ bot) (h2 : bot < G.rows) (hn : -9999 ≤ n ∧ n ≤ 9999) :
    Calls Tryz.prog 55 #[gridV G v, .int .i64 top, .int .i64 bot, .int .i64 n, .agg #[.int .i64 a.fg, .int .i64 a.bg, .int .i64 a.flags]] w fun e w' =>
      ∃ u, e = .returned (gridV (moveG G top bot n a) u) ∧ OwnCs w' w.heap.size u (moveG G top bot n a).cells ∧ Below w.heap.size w w' := by
  obtain ⟨R, C, rs, rfl, hr, _⟩ := parts_of hg
  rw [moveG_parts hr]
  obtain ⟨t, rfl⟩ := Int.eq_ofNat_of_zero_le h0
  obtain ⟨k, rfl⟩ := Int.eq_ofNat_of_zero_le (show 0 ≤ bot by omega)
  rw [Int.toNat_natCast, Int.toNat_natCast]
  exact refMove_any R C rs a t k n v w hr hv (by omega) (by have : (k : Int) < (R : Int) := h2; omega) hn
theorem Pb.seenE {w0 w : World} {s : S} {x y z v : Value} (h : Pb w0 s x y z w) {G : Gr} (hv : OwnCs w (w0.heap.size + 2) v G.cells) : Pb w0 (putG s G) (putX s x v) (putY s y v) z (pput w w0.heap.size (seatO s) G.rows G.cols v) :=
  h.only (h.pn.seen hv) (pput_below (Below.refl _ _) (Nat.le_refl _) _ _ _) (pput_only (Only.refl _ _) _ _ _)
theorem refSeenE (s : S) (x y z : Value) (b : Nat) (w : World) (h : SBox w b s x y z) : Calls Tryz.prog 49 #[.pointer (some ⟨b, 0, none⟩)] w fun e w' => e = .returned (.pointer (some ⟨b, seatO s, none⟩)) ∧ w = w' := by
  have c0 : ∀ j, w.cell? ⟨b, j, none⟩ = (sarr s x y z)[j]? := h.cell
  clear h
  cases hs : s.swapped
  · have HO : Hid (seatO s = 0) := Lib.hid (by unfold seatO; rw [hs]; rfl)
    rw [HO.out]
    go_enter Tryz.func49, Tryz.ntmps49
    go_wp2_with fail
    go_ret
    exact ⟨rfl, rfl⟩
  · have HO : Hid (seatO s = 3) := Lib.hid (by unfold seatO; rw [hs]; rfl)
    rw [HO.out]
    go_enter Tryz.func49, Tryz.ntmps49
    go_wp2_with fail
    go_ret
    exact ⟨rfl, rfl⟩
theorem putG_tops (s : S) (G : Gr) : (putG s G).top = s.top ∧ (putG s G).bottom = s.bottom := by unfold putG; split <;> exact ⟨rfl, rfl⟩
/-! ### the page's edit under way -/
abbrev pcbx (k : Cur) : Obj := .cells #[.int .i64 k.row, .int .i64 k.col, .bool k.wrap, .int .i64 k.a.fg, .int .i64 k.a.bg, .int .i64 k.a.flags, .int .i64 k.g0, .int .i64 k.g1, .int .i64 k.shift, .bool k.origin] 34 (0, 0)
abbrev pabx (a : Look) : Obj := .cells #[.int .i64 a.fg, .int .i64 a.bg, .int .i64 a.flags] 32 (0, 0)
structure Pe (w0 : World) (s : S) (x y z : Value) (k : Cur) (bc ba : Nat) (w : World) : Prop where
  pb : Pb w0 s x y z w
  c : w.heap[bc]? = some (pcbx k)
  a : w.heap[ba]? = some (pabx k.a)
  hc : bc ≠ w0.heap.size
  ha : ba ≠ w0.heap.size
theorem Pe.kept {w0 w w' : World} {s : S} {x y z : Value} {k : Cur} {bc ba : Nat} (h : Pe w0 s x y z k bc ba w) (hb : Below w.heap.size w w') : Pe w0 s x y z k bc ba w' := ⟨h.pb.kept hb, Blk.kept h.c hb, Blk.kept h.a hb, h.hc, h.ha⟩
theorem Pe.start {w0 w : World} {s : S} {x y z : Value} (h : Pb w0 s x y z w) : Pe w0 s x y z s.cur w.heap.size (w.heap.size + 1) ((w.alloc (pcbx s.cur)).alloc (pabx s.cur.a)) := by
  have h1 := h.kept (bel_alloc w (pcbx s.cur))
  have h2 := h1.kept (bel_alloc _ (pabx s.cur.a))
  have hl := h.pn.lt; have hu := h.pn.up
  have ha : ((w.alloc (pcbx s.cur)).alloc (pabx s.cur.a)).heap[w.heap.size + 1]? = some (pabx s.cur.a) := by
    have := heap_alloc_new (w.alloc (pcbx s.cur)) (pabx s.cur.a)
    simpa using this
  exact ⟨h2, Blk.kept (heap_alloc_new w _) (bel_alloc _ _), ha, by omega, by omega⟩
theorem Pe.wrap {w0 w : World} {s : S} {x y z : Value} {k : Cur} {bc ba : Nat} (h : Pe w0 s x y z k bc ba w) : Pe w0 (noWrap s) x y z k bc ba (w.setCell ⟨w0.heap.size, 9, none⟩ (.bool false)) :=
  ⟨h.pb.wrap, Blk.other h.c h.hc _ _, Blk.other h.a h.ha _ _, h.hc, h.ha⟩
theorem Pe.seen {w0 w : World} {s : S} {x y z v : Value} {k : Cur} {bc ba : Nat} (h : Pe w0 s x y z k bc ba w) {G : Gr} (hv : OwnCs w (w0.heap.size + 2) v G.cells) : Pe w0 (putG s G) (putX s x v) (putY s y v) z k bc ba (pput w w0.heap.size (seatO s) G.rows G.cols v) :=
  ⟨h.pb.seenE hv, Blk.other (Blk.other (Blk.other h.c h.hc _ _) h.hc _ _) h.hc _ _, Blk.other (Blk.other (Blk.other h.a h.ha _ _) h.ha _ _) h.ha _ _, h.hc, h.ha⟩
theorem Pb.first0 {w0 w : World} {s : S} {x y z : Value} (h : Pb w0 s x y z w) : Pb w0 (col0 s) x y z (w.setCell ⟨w0.heap.size, 8, none⟩ (.int .i64 0)) :=
  h.only (s' := col0 s) ⟨Blk.set h.pn.box 8 _, (h.pn.own.set h.pn.lt 8 _).as _ rfl rfl rfl, h.pn.lt, by rw [size_set]; exact h.pn.up⟩ ((Below.refl w0.heap.size w).setCell (show w0.heap.size ≤ w0.heap.size by omega) _) ((Only.refl w0.heap.size w).set _ _)
theorem Pe.first0 {w0 w : World} {s : S} {x y z : Value} {k : Cur} {bc ba : Nat} (h : Pe w0 s x y z k bc ba w) : Pe w0 (Scr.col0 s) x y z k bc ba (w.setCell ⟨w0.heap.size, 8, none⟩ (.int .i64 0)) :=
  ⟨h.pb.first0, Blk.other h.c h.hc _ _, Blk.other h.a h.ha _ _, h.hc, h.ha⟩
/-- The seen grid's cells of the box. -/
theorem Pe.grid {w0 w : World} {s : S} {x y z : Value} {k : Cur} {bc ba : Nat} (h : Pe w0 s x y z k bc ba w) : w.cell? ⟨w0.heap.size, seatO s, none⟩ = some (.int .i64 (seenG s).rows) ∧ w.cell? ⟨w0.heap.size, seatO s + 1, none⟩ = some (.int .i64 (seenG s).cols) ∧ w.cell? ⟨w0.heap.size, seatO s + 2, none⟩ = some (seenX s x y) := by
  have q := seat_arr s x y z
  exact ⟨by rw [h.pb.pn.box.cell]; exact q.1, by rw [h.pb.pn.box.cell]; exact q.2.1, by rw [h.pb.pn.box.cell]; exact q.2.2⟩
structure Pq (w : World) (b p bc ba : Nat) (s : S) (k : Cur) : Prop where
  c0 : w.cell? ⟨bc, 0, none⟩ = some (.int .i64 k.row)
  c1 : w.cell? ⟨bc, 1, none⟩ = some (.int .i64 k.col)
  a0 : w.cell? ⟨ba, 0, none⟩ = some (.int .i64 k.a.fg)
  a1 : w.cell? ⟨ba, 1, none⟩ = some (.int .i64 k.a.bg)
  a2 : w.cell? ⟨ba, 2, none⟩ = some (.int .i64 k.a.flags)
  t : w.cell? ⟨b, 37, none⟩ = some (.int .i64 s.top)
  m : w.cell? ⟨b, 38, none⟩ = some (.int .i64 s.bottom)
  g : w.cell? ⟨b, p + 1, none⟩ = some (.int .i64 (seenG s).cols)
theorem Pe.q {w0 w : World} {s : S} {x y z : Value} {k : Cur} {bc ba : Nat} (h : Pe w0 s x y z k bc ba w) : Pq w w0.heap.size (seatO s) bc ba s k :=
  ⟨Blk.cell h.c 0, Blk.cell h.c 1, Blk.cell h.a 0, Blk.cell h.a 1, Blk.cell h.a 2, h.pb.pn.box.cell 37, h.pb.pn.box.cell 38, h.grid.2.1⟩
theorem seatO_le (s : S) : seatO s ≤ 3 := by unfold seatO; split <;> omega
theorem seatO_putG (s : S) (G : Gr) : seatO (putG s G) = seatO s := by
  unfold seatO putG
  cases h : s.swapped with
  | false => simp
  | true => simp
theorem Pe.rm {w0 w : World} {s : S} {x y z : Value} {k : Cur} {bc ba : Nat} (h : Pe w0 s x y z k bc ba w) : Rm w (seenX s x y) (seenG s).cells := seenX_rm h.pb.pn.own.in_
/-! ### which cells of a row are erased -/
theorem mul_lt_row {i r C : Int} (h : i + 1 ≤ r) (hC : 0 ≤ C) : i * C + C ≤ r * C := by
  have := Int.mul_le_mul_of_nonneg_right h hC
  rw [Int.add_mul, Int.one_mul] at this
  exact this
/-- Of a row alone. -/
theorem wipeN_one {lo hi : Int} {a : Look} {G : Gr} {r : Nat} {R : Nat} (hr : r < R) (hl : ∀ i, i < R → i ≠ r → ¬ loC lo G.cols i < hiC hi G.cols i) : wipeN lo hi a R G = wipeRow lo hi a G r := by
  obtain ⟨n, hn⟩ : ∃ n, R = (r + 1) + n := ⟨R - (r + 1), by omega⟩
  rw [hn, wipeN_high fun i h1 h2 => hl i (by omega) (by omega)]
  show wipeRow lo hi a (wipeN lo hi a r G) r = _
  rw [wipeN_low fun i h1 => hl i (by omega) (by omega)]
theorem wipeRow_at {lo hi : Int} {a : Look} {G : Gr} {i : Nat} {l h : Int} (h1 : loC lo G.cols i = l) (h2 : hiC hi G.cols i = h) (hlt : l < h) : wipeRow lo hi a G i = withRow G i (eraseL (rowG G i) l.toNat h.toNat a) := by
  unfold wipeRow
  rw [h1, h2, if_pos hlt]
end Scr
end Go.Proofs.YtgdfiiikbnpagaaGreatDoor
end
section
/- Which cells of which rows an erasing names: the developers' count through all rows, the page's row by row. No program stands in this text but by its library's names. -/
namespace Go.Proofs.YtgdfiiikbnpagaaGreatDoor
set_option maxRecDepth 100000
namespace Scr
open Go.Proofs.YtgdfiiikbnpagaaGreatDoor.Row Wid

def lowI (s : S) (m : Int) (i : Nat) : Int := if (i : Int) = s.cur.row ∧ m = 0 then s.cur.col else 0
def highI (s : S) (m : Int) (i : Nat) : Int := if (i : Int) = s.cur.row ∧ m = 1 then s.cur.col + 1 else s.main.cols
/-- From row fr to row to_ the page's bounds, else nothing. -/
structure Span (s : S) (lo hi m fr to_ : Int) : Prop where
  fr0 : 0 ≤ fr
  le : fr ≤ to_ + 1
  to1 : to_ ≤ s.main.rows - 1
  low : ∀ i : Nat, (i : Int) < fr → ¬ loC lo s.main.cols i < hiC hi s.main.cols i
  mid : ∀ i : Nat, fr ≤ (i : Int) → (i : Int) ≤ to_ → loC lo s.main.cols i = lowI s m i ∧ hiC hi s.main.cols i = highI s m i ∧ 0 ≤ lowI s m i ∧ lowI s m i < highI s m i ∧ highI s m i ≤ s.main.cols
  high : ∀ i : Nat, to_ < (i : Int) → (i : Int) < s.main.rows → ¬ loC lo s.main.cols i < hiC hi s.main.cols i
theorem span_facts {s : S} (f : Facts s) (i : Nat) : ((i : Int) < s.cur.row → (i : Int) * s.main.cols + s.main.cols ≤ s.cur.row * s.main.cols) ∧ (s.cur.row < (i : Int) → s.cur.row * s.main.cols + s.main.cols ≤ (i : Int) * s.main.cols) ∧ ((i : Int) < s.main.rows → (i : Int) * s.main.cols + s.main.cols ≤ s.main.rows * s.main.cols) ∧ 0 ≤ (i : Int) * s.main.cols ∧ ((i : Int) = s.cur.row → (i : Int) * s.main.cols = s.cur.row * s.main.cols) := by
  have hc := f.c1
  refine ⟨fun h => mul_lt_row (by omega) (by omega), fun h => mul_lt_row (by omega) (by omega), fun h => mul_lt_row (by omega) (by omega), Int.mul_nonneg (by omega) (by omega), fun h => by rw [h]⟩
theorem atI_is (s : S) : atI s = s.cur.row * s.main.cols + s.cur.col := rfl
theorem span_J0 {s : S} (f : Facts s) : Span s (atI s) (s.main.rows * s.main.cols) 0 s.cur.row (s.main.rows - 1) := by
  have hr0 := f.row0; have hr1 := f.row1; have hc0 := f.col0; have hc1 := f.col1; have hk := f.c1; have hR := f.r1
  have hB : 0 ≤ s.cur.row * s.main.cols := Int.mul_nonneg (by omega) (by omega)
  have hA := atI_is s
  refine ⟨by omega, by omega, by omega, fun i hi => ?_, fun i h1 h2 => ?_, fun i h1 h2 => ?_⟩
  all_goals
    obtain ⟨e1, e2, e3, e4, e5⟩ := span_facts f i
    have e6 := (span_facts f s.cur.row.toNat).2.2.1
    rw [show ((s.cur.row.toNat : Nat) : Int) = s.cur.row by omega] at e6
  · unfold loC hiC
    generalize (i : Int) * s.main.cols = P at e1 e2 e3 e4 e5 ⊢
    generalize s.cur.row * s.main.cols = B at hB hA e1 e2 e5 e6 ⊢
    try generalize s.main.rows * s.main.cols = E at e3 e6 ⊢
    omega
  · unfold loC hiC lowI highI
    generalize (i : Int) * s.main.cols = P at e1 e2 e3 e4 e5 ⊢
    generalize s.cur.row * s.main.cols = B at hB hA e1 e2 e5 e6 ⊢
    try generalize s.main.rows * s.main.cols = E at e3 e6 ⊢
    have e7 : (i : Int) = s.cur.row ∨ (i : Int) < s.cur.row ∨ s.cur.row < (i : Int) := by omega
    refine ⟨?_, ?_, ?_, ?_, ?_⟩ <;> (repeat' split) <;> omega
  · unfold loC hiC
    generalize (i : Int) * s.main.cols = P at e1 e2 e3 e4 e5 ⊢
    generalize s.cur.row * s.main.cols = B at hB hA e1 e2 e5 e6 ⊢
    try generalize s.main.rows * s.main.cols = E at e3 e6 ⊢
    omega
theorem span_J1 {s : S} (f : Facts s) : Span s (0) (atI s + 1) 1 0 s.cur.row := by
  have hr0 := f.row0; have hr1 := f.row1; have hc0 := f.col0; have hc1 := f.col1; have hk := f.c1; have hR := f.r1
  have hB : 0 ≤ s.cur.row * s.main.cols := Int.mul_nonneg (by omega) (by omega)
  have hA := atI_is s
  refine ⟨by omega, by omega, by omega, fun i hi => ?_, fun i h1 h2 => ?_, fun i h1 h2 => ?_⟩
  all_goals
    obtain ⟨e1, e2, e3, e4, e5⟩ := span_facts f i
    have e6 := (span_facts f s.cur.row.toNat).2.2.1
    rw [show ((s.cur.row.toNat : Nat) : Int) = s.cur.row by omega] at e6
  · unfold loC hiC
    generalize (i : Int) * s.main.cols = P at e1 e2 e3 e4 e5 ⊢
    generalize s.cur.row * s.main.cols = B at hB hA e1 e2 e5 e6 ⊢
    try generalize s.main.rows * s.main.cols = E at e3 e6 ⊢
    omega
  · unfold loC hiC lowI highI
    generalize (i : Int) * s.main.cols = P at e1 e2 e3 e4 e5 ⊢
    generalize s.cur.row * s.main.cols = B at hB hA e1 e2 e5 e6 ⊢
    try generalize s.main.rows * s.main.cols = E at e3 e6 ⊢
    have e7 : (i : Int) = s.cur.row ∨ (i : Int) < s.cur.row ∨ s.cur.row < (i : Int) := by omega
    refine ⟨?_, ?_, ?_, ?_, ?_⟩ <;> (repeat' split) <;> omega
  · unfold loC hiC
    generalize (i : Int) * s.main.cols = P at e1 e2 e3 e4 e5 ⊢
    generalize s.cur.row * s.main.cols = B at hB hA e1 e2 e5 e6 ⊢
    try generalize s.main.rows * s.main.cols = E at e3 e6 ⊢
    omega
theorem span_J2 {s : S} (f : Facts s) : Span s (0) (s.main.rows * s.main.cols) 2 0 (s.main.rows - 1) := by
  have hr0 := f.row0; have hr1 := f.row1; have hc0 := f.col0; have hc1 := f.col1; have hk := f.c1; have hR := f.r1
  have hB : 0 ≤ s.cur.row * s.main.cols := Int.mul_nonneg (by omega) (by omega)
  have hA := atI_is s
  refine ⟨by omega, by omega, by omega, fun i hi => ?_, fun i h1 h2 => ?_, fun i h1 h2 => ?_⟩
  all_goals
    obtain ⟨e1, e2, e3, e4, e5⟩ := span_facts f i
    have e6 := (span_facts f s.cur.row.toNat).2.2.1
    rw [show ((s.cur.row.toNat : Nat) : Int) = s.cur.row by omega] at e6
  · unfold loC hiC
    generalize (i : Int) * s.main.cols = P at e1 e2 e3 e4 e5 ⊢
    generalize s.cur.row * s.main.cols = B at hB hA e1 e2 e5 e6 ⊢
    try generalize s.main.rows * s.main.cols = E at e3 e6 ⊢
    omega
  · unfold loC hiC lowI highI
    generalize (i : Int) * s.main.cols = P at e1 e2 e3 e4 e5 ⊢
    generalize s.cur.row * s.main.cols = B at hB hA e1 e2 e5 e6 ⊢
    try generalize s.main.rows * s.main.cols = E at e3 e6 ⊢
    have e7 : (i : Int) = s.cur.row ∨ (i : Int) < s.cur.row ∨ s.cur.row < (i : Int) := by omega
    refine ⟨?_, ?_, ?_, ?_, ?_⟩ <;> (repeat' split) <;> omega
  · unfold loC hiC
    generalize (i : Int) * s.main.cols = P at e1 e2 e3 e4 e5 ⊢
    generalize s.cur.row * s.main.cols = B at hB hA e1 e2 e5 e6 ⊢
    try generalize s.main.rows * s.main.cols = E at e3 e6 ⊢
    omega
theorem span_K0 {s : S} (f : Facts s) : Span s (atI s) (s.cur.row * s.main.cols + s.main.cols) 0 s.cur.row s.cur.row := by
  have hr0 := f.row0; have hr1 := f.row1; have hc0 := f.col0; have hc1 := f.col1; have hk := f.c1; have hR := f.r1
  have hB : 0 ≤ s.cur.row * s.main.cols := Int.mul_nonneg (by omega) (by omega)
  have hA := atI_is s
  refine ⟨by omega, by omega, by omega, fun i hi => ?_, fun i h1 h2 => ?_, fun i h1 h2 => ?_⟩
  all_goals
    obtain ⟨e1, e2, e3, e4, e5⟩ := span_facts f i
    have e6 := (span_facts f s.cur.row.toNat).2.2.1
    rw [show ((s.cur.row.toNat : Nat) : Int) = s.cur.row by omega] at e6
  · unfold loC hiC
    generalize (i : Int) * s.main.cols = P at e1 e2 e3 e4 e5 ⊢
    generalize s.cur.row * s.main.cols = B at hB hA e1 e2 e5 e6 ⊢
    try generalize s.main.rows * s.main.cols = E at e3 e6 ⊢
    omega
  · unfold loC hiC lowI highI
    generalize (i : Int) * s.main.cols = P at e1 e2 e3 e4 e5 ⊢
    generalize s.cur.row * s.main.cols = B at hB hA e1 e2 e5 e6 ⊢
    try generalize s.main.rows * s.main.cols = E at e3 e6 ⊢
    have e7 : (i : Int) = s.cur.row ∨ (i : Int) < s.cur.row ∨ s.cur.row < (i : Int) := by omega
    refine ⟨?_, ?_, ?_, ?_, ?_⟩ <;> (repeat' split) <;> omega
  · unfold loC hiC
    generalize (i : Int) * s.main.cols = P at e1 e2 e3 e4 e5 ⊢
    generalize s.cur.row * s.main.cols = B at hB hA e1 e2 e5 e6 ⊢
    try generalize s.main.rows * s.main.cols = E at e3 e6 ⊢
    omega
theorem span_K1 {s : S} (f : Facts s) : Span s (s.cur.row * s.main.cols) (atI s + 1) 1 s.cur.row s.cur.row := by
  have hr0 := f.row0; have hr1 := f.row1; have hc0 := f.col0; have hc1 := f.col1; have hk := f.c1; have hR := f.r1
  have hB : 0 ≤ s.cur.row * s.main.cols := Int.mul_nonneg (by omega) (by omega)
  have hA := atI_is s
  refine ⟨by omega, by omega, by omega, fun i hi => ?_, fun i h1 h2 => ?_, fun i h1 h2 => ?_⟩
  all_goals
    obtain ⟨e1, e2, e3, e4, e5⟩ := span_facts f i
    have e6 := (span_facts f s.cur.row.toNat).2.2.1
    rw [show ((s.cur.row.toNat : Nat) : Int) = s.cur.row by omega] at e6
  · unfold loC hiC
    generalize (i : Int) * s.main.cols = P at e1 e2 e3 e4 e5 ⊢
    generalize s.cur.row * s.main.cols = B at hB hA e1 e2 e5 e6 ⊢
    try generalize s.main.rows * s.main.cols = E at e3 e6 ⊢
    omega
  · unfold loC hiC lowI highI
    generalize (i : Int) * s.main.cols = P at e1 e2 e3 e4 e5 ⊢
    generalize s.cur.row * s.main.cols = B at hB hA e1 e2 e5 e6 ⊢
    try generalize s.main.rows * s.main.cols = E at e3 e6 ⊢
    have e7 : (i : Int) = s.cur.row ∨ (i : Int) < s.cur.row ∨ s.cur.row < (i : Int) := by omega
    refine ⟨?_, ?_, ?_, ?_, ?_⟩ <;> (repeat' split) <;> omega
  · unfold loC hiC
    generalize (i : Int) * s.main.cols = P at e1 e2 e3 e4 e5 ⊢
    generalize s.cur.row * s.main.cols = B at hB hA e1 e2 e5 e6 ⊢
    try generalize s.main.rows * s.main.cols = E at e3 e6 ⊢
    omega
theorem span_K2 {s : S} (f : Facts s) : Span s (s.cur.row * s.main.cols) (s.cur.row * s.main.cols + s.main.cols) 2 s.cur.row s.cur.row := by
  have hr0 := f.row0; have hr1 := f.row1; have hc0 := f.col0; have hc1 := f.col1; have hk := f.c1; have hR := f.r1
  have hB : 0 ≤ s.cur.row * s.main.cols := Int.mul_nonneg (by omega) (by omega)
  have hA := atI_is s
  refine ⟨by omega, by omega, by omega, fun i hi => ?_, fun i h1 h2 => ?_, fun i h1 h2 => ?_⟩
  all_goals
    obtain ⟨e1, e2, e3, e4, e5⟩ := span_facts f i
    have e6 := (span_facts f s.cur.row.toNat).2.2.1
    rw [show ((s.cur.row.toNat : Nat) : Int) = s.cur.row by omega] at e6
  · unfold loC hiC
    generalize (i : Int) * s.main.cols = P at e1 e2 e3 e4 e5 ⊢
    generalize s.cur.row * s.main.cols = B at hB hA e1 e2 e5 e6 ⊢
    try generalize s.main.rows * s.main.cols = E at e3 e6 ⊢
    omega
  · unfold loC hiC lowI highI
    generalize (i : Int) * s.main.cols = P at e1 e2 e3 e4 e5 ⊢
    generalize s.cur.row * s.main.cols = B at hB hA e1 e2 e5 e6 ⊢
    try generalize s.main.rows * s.main.cols = E at e3 e6 ⊢
    have e7 : (i : Int) = s.cur.row ∨ (i : Int) < s.cur.row ∨ s.cur.row < (i : Int) := by omega
    refine ⟨?_, ?_, ?_, ?_, ?_⟩ <;> (repeat' split) <;> omega
  · unfold loC hiC
    generalize (i : Int) * s.main.cols = P at e1 e2 e3 e4 e5 ⊢
    generalize s.cur.row * s.main.cols = B at hB hA e1 e2 e5 e6 ⊢
    try generalize s.main.rows * s.main.cols = E at e3 e6 ⊢
    omega
/-- X: some cells of one row. -/
theorem wipeX_same {s : S} (f : Facts s) {n : Int} (hn : 1 ≤ n) : wipeN (atI s) (min (atI s + n) (s.cur.row * s.main.cols + s.main.cols)) s.cur.a s.main.rows.toNat (seenG s) = withRow (seenG s) s.cur.row.toNat (eraseL (lineS s) s.cur.col.toNat (min s.main.cols (s.cur.col + n)).toNat s.cur.a) := by
  have hr0 := f.row0; have hr1 := f.row1; have hc0 := f.col0; have hc1 := f.col1; have hk := f.c1; have hR := f.r1
  have hA := atI_is s
  have hrow : ((s.cur.row.toNat : Nat) : Int) = s.cur.row := by omega
  rw [wipeN_one (r := s.cur.row.toNat) (by omega), wipeRow_at (l := s.cur.col) (h := min s.main.cols (s.cur.col + n))]
  · rfl
  · rw [f.gc]; unfold loC; rw [hrow]; omega
  · rw [f.gc]; unfold hiC; rw [hrow]; omega
  · omega
  · intro i hi hne
    obtain ⟨e1, e2, _, e4, _⟩ := span_facts f i
    rw [f.gc]
    unfold loC hiC
    generalize (i : Int) * s.main.cols = P at e1 e2 e4
    generalize s.cur.row * s.main.cols = B at hA e1 e2
    have : (i : Int) < s.cur.row ∨ s.cur.row < (i : Int) := by omega
    omega
end Scr
end Go.Proofs.YtgdfiiikbnpagaaGreatDoor
end
