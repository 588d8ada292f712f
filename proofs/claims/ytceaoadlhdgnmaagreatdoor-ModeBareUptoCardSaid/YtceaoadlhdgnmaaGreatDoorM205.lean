/- Joined texts: CurRef0, CurRefH. -/
import Derived.Test.YtceaoadlhdgnmaaGreatDoorM24
import Derived.Test.YtceaoadlhdgnmaaGreatDoorM203
import Derived.Deep.RegionLaw
import Derived.BigQuiet
namespace Go.Proofs.YtceaoadlhdgnmaaGreatDoor
set_option maxRecDepth 100000
section
open Go.RowKit
namespace Scr
open Go.Proofs.YtceaoadlhdgnmaaGreatDoor.Row
def atC (s : S) (c : Int) : S := atPlace s s.cur.row c
theorem Pb.col {w0 w : World} {s : S} {x y z : Value} (h : Pb w0 s x y z w) (n : Int) : Pb w0 (atC s n) x y z (w.setCell ⟨w0.heap.size, 8, none⟩ (.int .i64 n)) :=
  h.only (h.pn.atCol' n) ((Below.refl w0.heap.size w).setCell (show w0.heap.size ≤ w0.heap.size by omega) _) ((Only.refl w0.heap.size w).set _ _)
theorem goal_row {s : S} {k n r : Int} (h : goal s k n = (true, r)) : goTo s k n = atRow s r := by unfold goTo; rw [h]; rfl
theorem goal_col {s : S} {k n c : Int} (h : goal s k n = (false, c)) : goTo s k n = atC s c := by unfold goTo; rw [h]; rfl
theorem move_both {s : S} {key k n m c0 r c : Int} (hk : stL key n m = [(k, n), (71, c0)]) (h : goal s k (max n 1) = (true, r)) (hc : min (max c0 1 - 1) (s.main.cols - 1) = c) : moveS s key n m = atC (atRow (noWrap s) r) c := by
  unfold moveS; rw [hk]
  show noWrap (goTo (goTo s k (max n 1)) 71 (max c0 1)) = _
  rw [goal_row h, goal_col (show goal (atRow s r) 71 (max c0 1) = (false, c) by rw [← hc]; rfl)]; rfl
structure Rd (w : World) (b : Nat) (s : S) (z : Value) : Prop where
  c0 : w.cell? ⟨b, 0, none⟩ = some (.int .i64 s.main.rows)
  c1 : w.cell? ⟨b, 1, none⟩ = some (.int .i64 s.main.cols)
  c7 : w.cell? ⟨b, 7, none⟩ = some (.int .i64 s.cur.row)
  c8 : w.cell? ⟨b, 8, none⟩ = some (.int .i64 s.cur.col)
  c16 : w.cell? ⟨b, 16, none⟩ = some (.bool s.cur.origin)
  c37 : w.cell? ⟨b, 37, none⟩ = some (.int .i64 s.top)
  c38 : w.cell? ⟨b, 38, none⟩ = some (.int .i64 s.bottom)
  c39 : w.cell? ⟨b, 39, none⟩ = some z
theorem SBox.rd {w : World} {b : Nat} {s : S} {x y z : Value} (h : SBox w b s x y z) : Rd w b s z := ⟨h.cell 0, h.cell 1, h.cell 7, h.cell 8, h.cell 16, h.cell 37, h.cell 38, h.cell 39⟩
end Scr
end
section
open Go.RowKit
namespace Scr
open Go.Proofs.YtceaoadlhdgnmaaGreatDoor.Row
set_option maxHeartbeats 6400000 in
theorem refMove_Hin (s : S) (x y z : Value) (n m : Int) (w : World) (h : In w s x y z) (hok : Ok s) (hn : numB n = true) (hm : numB m = true) (hc : s.cur.origin = true) :
    Calls Tryz.prog 98 #[sv s x y z, .int .i64 72, .int .i64 n, .int .i64 m] w fun e w' => ∃ x' y' z', e = .returned (sv (moveS s 72 n m) x' y' z') ∧ Own w' w.heap.size (moveS s 72 n m) x' y' z' ∧ Below w.heap.size w w' := by
  have HI := Lib.hid h
  have H0 := Lib.hid (Rz.start w s x y z)
  have HL := Lib.hid hok.lens
  have HFC := Lib.hid hok.fc
  have f := hok.facts
  have n1a := numB_iff.1 hn
  have m1a := numB_iff.1 hm
  obtain ⟨n1, hx⟩ : ∃ n1, max (1 : Int) n = n1 := ⟨_, rfl⟩
  obtain ⟨m1, hy⟩ : ∃ m1, max (1 : Int) m = m1 := ⟨_, rfl⟩
  have hxn : max n 1 = n1 := by omega
  have hym : max m 1 = m1 := by omega
  have hn1 : 1 ≤ n1 ∧ n1 ≤ 9999 := by omega
  have hm1 : 1 ≤ m1 ∧ m1 ≤ 9999 := by omega
  have HE : Hid (moveS s 72 n m = atC (atRow (noWrap s) (min s.bottom (s.top + n1 - 1))) (min (s.main.cols - 1) (m1 - 1))) := Lib.hid (by
    have hg : goal s 100 (max n 1) = (true, min s.bottom (s.top + n1 - 1)) := by
      show (true, noRow s (max n 1)) = _
      rw [hxn]; unfold noRow; rw [hc]; rw [if_pos rfl]; congr 1; omega
    exact move_both (k := 100) (c0 := m) rfl hg (by rw [hym]; omega))
  rw [HE.out]
  have hw : IntKind.i64.wrap (s.top + n1) = s.top + n1 := by rw [IntKind.wrap_i64]; have := f.top0; have := f.tb; have := f.bot; have := f.r40; have := f.r1; omega
  have hw2 : IntKind.i64.wrap (s.top + n1 - 1) = s.top + n1 - 1 := by rw [IntKind.wrap_i64]; have := f.top0; have := f.tb; have := f.bot; have := f.r40; have := f.r1; omega
  have hz : IntKind.i64.wrap (n1) = n1 := by rw [IntKind.wrap_i64]; omega
  have hu : IntKind.i64.wrap (n1 - 1) = n1 - 1 := by rw [IntKind.wrap_i64]; omega
  have hv : IntKind.i64.wrap (s.main.rows - 1) = s.main.rows - 1 := by rw [IntKind.wrap_i64]; have := f.top0; have := f.tb; have := f.bot; have := f.r40; have := f.r1; omega
  have hvc : IntKind.i64.wrap (s.main.cols - 1) = s.main.cols - 1 := by rw [IntKind.wrap_i64]; have := f.col0; have := f.col1; have := f.c40; have := f.c1; omega
  have hum : IntKind.i64.wrap (m1 - 1) = m1 - 1 := by rw [IntKind.wrap_i64]; omega
  clear h hok hn hm f n1a m1a hxn hym
  go_enter Tryz.func98, Tryz.ntmps98
  go_wp2_with (first
    | (refine wp_allocS1 (w := w) rfl rfl ?_)
    | (refine wp_loadS (b := w.heap.size) (s := s) rfl rfl rfl H0.out.b0 ?_))
  refine (copyScreen_any s x y z _ (HI.out.kept H0.out.bel) HL.out).mono ?_; rintro e w1 ⟨x1, y1, z1, rfl, ho, hb⟩
  have H1 := Lib.hid (H0.out.kept hb)
  have HO1 := Lib.hid (ho.low H0.out.up)
  clear ho hb H0 HI
  go_upto_region 5 with (refine wp_storeS_then (b := w.heap.size) (A := sarr s x1 y1 z1) (T := Pb w s x1 y1 z1) rfl rfl rfl rfl rfl HO1.out.in_.one H1.out.b0 rfl (fun _ k => Pb.start H1.out HO1.out k) ?_; intro w2 H2; have c2 : ∀ j, w2.cell? ⟨w.heap.size, j, none⟩ = (sarr s x1 y1 z1)[j]? := H2.out.pn.box.cell; have f2 : ∀ j, w2.frozen? ⟨w.heap.size, j, none⟩ = false := H2.out.pn.box.free)
  change Code.wp _ _ _ _ (w2.setCell ⟨w.heap.size, 9, none⟩ (.bool false))
  have H3 := Lib.hid H2.out.wrap
  clear c2 f2 H2 H1 HO1
  generalize w2.setCell ⟨w.heap.size, 9, none⟩ (.bool false) = w3 at H3 ⊢
  obtain ⟨q0, q1, q7, q8, q16, q37, q38, q39⟩ : Rd w3 w.heap.size s z1 := (by have k := H3.out.pn.box.rd; exact ⟨k.c0, k.c1, k.c7, k.c8, k.c16, k.c37, k.c38, k.c39⟩)
  go_quiet (fail)
  go_upto_region 31 with (fail)
  have H4 := Lib.hid (H3.out.kept (bel_drewNc w3 nq))
  clear q0 q1 q7 q8 q16 q37 q38 q39 H3
  generalize w3.drewN nq = w4 at H4 ⊢
  obtain ⟨q0, q1, q7, q8, q16, q37, q38, q39⟩ : Rd w4 w.heap.size s z1 := (by have k := H4.out.pn.box.rd; exact ⟨k.c0, k.c1, k.c7, k.c8, k.c16, k.c37, k.c38, k.c39⟩)
  rw [hc] at q16
  go_upto_region 32 with (fail)
  go_quiet (fail)
  go_upto_region 33 with (fail)
  have H5 := Lib.hid (H4.out.kept (bel_drewNc w4 nq))
  clear q0 q1 q7 q8 q16 q37 q38 q39 H4
  generalize w4.drewN nq = w5 at H5 ⊢
  obtain ⟨q0, q1, q7, q8, q16, q37, q38, q39⟩ : Rd w5 w.heap.size s z1 := (by have k := H5.out.pn.box.rd; exact ⟨k.c0, k.c1, k.c7, k.c8, k.c16, k.c37, k.c38, k.c39⟩)
  have f0 : ∀ j, w5.frozen? ⟨w.heap.size, j, none⟩ = false := H5.out.pn.box.free
  go_upto_region 34 with (fail)
  change Code.wp _ _ _ _ (w5.setCell ⟨w.heap.size, 7, none⟩ (.int .i64 (min s.bottom (s.top + n1 - 1))))
  have H6 := Lib.hid (H5.out.row (min s.bottom (s.top + n1 - 1)))
  clear q0 q1 q7 q8 q16 q37 q38 q39 f0 H5
  generalize w5.setCell ⟨w.heap.size, 7, none⟩ (.int .i64 (min s.bottom (s.top + n1 - 1))) = w6 at H6 ⊢
  obtain ⟨q0, q1, q7, q8, q16, q37, q38, q39⟩ : Rd w6 w.heap.size (atRow (noWrap s) (min s.bottom (s.top + n1 - 1))) z1 := (by have k := H6.out.pn.box.rd; exact ⟨k.c0, k.c1, k.c7, k.c8, k.c16, k.c37, k.c38, k.c39⟩)
  have f0 : ∀ j, w6.frozen? ⟨w.heap.size, j, none⟩ = false := H6.out.pn.box.free
  go_upto_region 38 with (fail)
  change Code.wp _ _ _ _ (w6.setCell ⟨w.heap.size, 8, none⟩ (.int .i64 (min (s.main.cols - 1) (m1 - 1))))
  have H7 := Lib.hid (H6.out.col (min (s.main.cols - 1) (m1 - 1)))
  clear q0 q1 q7 q8 q16 q37 q38 q39 f0 H6
  generalize w6.setCell ⟨w.heap.size, 8, none⟩ (.int .i64 (min (s.main.cols - 1) (m1 - 1))) = w7 at H7 ⊢
  go_wp2_with (first
    | (refine wp_loadS (b := w.heap.size) (s := atC (atRow (noWrap s) (min s.bottom (s.top + n1 - 1))) (min (s.main.cols - 1) (m1 - 1))) rfl rfl rfl H7.out.pn.box ?_)
    | (refine wp_storeS (b := w.heap.size + 1) rfl rfl rfl rfl rfl H7.out.pn.own.in_.one H7.out.b1 rfl ?_; intro w9 h9))
  refine bodyPost_ret (ret1S rfl rfl h9.box) rfl ?_
  exact ⟨_, _, _, rfl, Own.low (h9.own H7.out.pn.own (by omega)) (by omega), h9.below _ _ (by omega) H7.out.bel⟩
set_option maxHeartbeats 6400000 in
theorem refMove_Hout (s : S) (x y z : Value) (n m : Int) (w : World) (h : In w s x y z) (hok : Ok s) (hn : numB n = true) (hm : numB m = true) (hc : s.cur.origin = false) :
    Calls Tryz.prog 98 #[sv s x y z, .int .i64 72, .int .i64 n, .int .i64 m] w fun e w' => ∃ x' y' z', e = .returned (sv (moveS s 72 n m) x' y' z') ∧ Own w' w.heap.size (moveS s 72 n m) x' y' z' ∧ Below w.heap.size w w' := by
  have HI := Lib.hid h
  have H0 := Lib.hid (Rz.start w s x y z)
  have HL := Lib.hid hok.lens
  have HFC := Lib.hid hok.fc
  have f := hok.facts
  have n1a := numB_iff.1 hn
  have m1a := numB_iff.1 hm
  obtain ⟨n1, hx⟩ : ∃ n1, max (1 : Int) n = n1 := ⟨_, rfl⟩
  obtain ⟨m1, hy⟩ : ∃ m1, max (1 : Int) m = m1 := ⟨_, rfl⟩
  have hxn : max n 1 = n1 := by omega
  have hym : max m 1 = m1 := by omega
  have hn1 : 1 ≤ n1 ∧ n1 ≤ 9999 := by omega
  have hm1 : 1 ≤ m1 ∧ m1 ≤ 9999 := by omega
  have HE : Hid (moveS s 72 n m = atC (atRow (noWrap s) (min (s.main.rows - 1) (n1 - 1))) (min (s.main.cols - 1) (m1 - 1))) := Lib.hid (by
    have hg : goal s 100 (max n 1) = (true, min (s.main.rows - 1) (n1 - 1)) := by
      show (true, noRow s (max n 1)) = _
      rw [hxn]; unfold noRow; rw [hc]; rw [if_neg (by simp)]; congr 1; omega
    exact move_both (k := 100) (c0 := m) rfl hg (by rw [hym]; omega))
  rw [HE.out]
  have hw : IntKind.i64.wrap (s.top + n1) = s.top + n1 := by rw [IntKind.wrap_i64]; have := f.top0; have := f.tb; have := f.bot; have := f.r40; have := f.r1; omega
  have hw2 : IntKind.i64.wrap (s.top + n1 - 1) = s.top + n1 - 1 := by rw [IntKind.wrap_i64]; have := f.top0; have := f.tb; have := f.bot; have := f.r40; have := f.r1; omega
  have hz : IntKind.i64.wrap (n1) = n1 := by rw [IntKind.wrap_i64]; omega
  have hu : IntKind.i64.wrap (n1 - 1) = n1 - 1 := by rw [IntKind.wrap_i64]; omega
  have hv : IntKind.i64.wrap (s.main.rows - 1) = s.main.rows - 1 := by rw [IntKind.wrap_i64]; have := f.top0; have := f.tb; have := f.bot; have := f.r40; have := f.r1; omega
  have hvc : IntKind.i64.wrap (s.main.cols - 1) = s.main.cols - 1 := by rw [IntKind.wrap_i64]; have := f.col0; have := f.col1; have := f.c40; have := f.c1; omega
  have hum : IntKind.i64.wrap (m1 - 1) = m1 - 1 := by rw [IntKind.wrap_i64]; omega
  clear h hok hn hm f n1a m1a hxn hym
  go_enter Tryz.func98, Tryz.ntmps98
  go_wp2_with (first
    | (refine wp_allocS1 (w := w) rfl rfl ?_)
    | (refine wp_loadS (b := w.heap.size) (s := s) rfl rfl rfl H0.out.b0 ?_))
  refine (copyScreen_any s x y z _ (HI.out.kept H0.out.bel) HL.out).mono ?_; rintro e w1 ⟨x1, y1, z1, rfl, ho, hb⟩
  have H1 := Lib.hid (H0.out.kept hb)
  have HO1 := Lib.hid (ho.low H0.out.up)
  clear ho hb H0 HI
  go_upto_region 5 with (refine wp_storeS_then (b := w.heap.size) (A := sarr s x1 y1 z1) (T := Pb w s x1 y1 z1) rfl rfl rfl rfl rfl HO1.out.in_.one H1.out.b0 rfl (fun _ k => Pb.start H1.out HO1.out k) ?_; intro w2 H2; have c2 : ∀ j, w2.cell? ⟨w.heap.size, j, none⟩ = (sarr s x1 y1 z1)[j]? := H2.out.pn.box.cell; have f2 : ∀ j, w2.frozen? ⟨w.heap.size, j, none⟩ = false := H2.out.pn.box.free)
  change Code.wp _ _ _ _ (w2.setCell ⟨w.heap.size, 9, none⟩ (.bool false))
  have H3 := Lib.hid H2.out.wrap
  clear c2 f2 H2 H1 HO1
  generalize w2.setCell ⟨w.heap.size, 9, none⟩ (.bool false) = w3 at H3 ⊢
  obtain ⟨q0, q1, q7, q8, q16, q37, q38, q39⟩ : Rd w3 w.heap.size s z1 := (by have k := H3.out.pn.box.rd; exact ⟨k.c0, k.c1, k.c7, k.c8, k.c16, k.c37, k.c38, k.c39⟩)
  go_quiet (fail)
  go_upto_region 31 with (fail)
  have H4 := Lib.hid (H3.out.kept (bel_drewNc w3 nq))
  clear q0 q1 q7 q8 q16 q37 q38 q39 H3
  generalize w3.drewN nq = w4 at H4 ⊢
  obtain ⟨q0, q1, q7, q8, q16, q37, q38, q39⟩ : Rd w4 w.heap.size s z1 := (by have k := H4.out.pn.box.rd; exact ⟨k.c0, k.c1, k.c7, k.c8, k.c16, k.c37, k.c38, k.c39⟩)
  rw [hc] at q16
  go_upto_region 33 with (fail)
  have H5 := H4
  have f0 : ∀ j, w4.frozen? ⟨w.heap.size, j, none⟩ = false := H5.out.pn.box.free
  go_upto_region 34 with (fail)
  change Code.wp _ _ _ _ (w4.setCell ⟨w.heap.size, 7, none⟩ (.int .i64 (min (s.main.rows - 1) (n1 - 1))))
  have H6 := Lib.hid (H5.out.row (min (s.main.rows - 1) (n1 - 1)))
  clear q0 q1 q7 q8 q16 q37 q38 q39 f0 H5 H4
  generalize w4.setCell ⟨w.heap.size, 7, none⟩ (.int .i64 (min (s.main.rows - 1) (n1 - 1))) = w6 at H6 ⊢
  obtain ⟨q0, q1, q7, q8, q16, q37, q38, q39⟩ : Rd w6 w.heap.size (atRow (noWrap s) (min (s.main.rows - 1) (n1 - 1))) z1 := (by have k := H6.out.pn.box.rd; exact ⟨k.c0, k.c1, k.c7, k.c8, k.c16, k.c37, k.c38, k.c39⟩)
  have f0 : ∀ j, w6.frozen? ⟨w.heap.size, j, none⟩ = false := H6.out.pn.box.free
  go_upto_region 38 with (fail)
  change Code.wp _ _ _ _ (w6.setCell ⟨w.heap.size, 8, none⟩ (.int .i64 (min (s.main.cols - 1) (m1 - 1))))
  have H7 := Lib.hid (H6.out.col (min (s.main.cols - 1) (m1 - 1)))
  clear q0 q1 q7 q8 q16 q37 q38 q39 f0 H6
  generalize w6.setCell ⟨w.heap.size, 8, none⟩ (.int .i64 (min (s.main.cols - 1) (m1 - 1))) = w7 at H7 ⊢
  go_wp2_with (first
    | (refine wp_loadS (b := w.heap.size) (s := atC (atRow (noWrap s) (min (s.main.rows - 1) (n1 - 1))) (min (s.main.cols - 1) (m1 - 1))) rfl rfl rfl H7.out.pn.box ?_)
    | (refine wp_storeS (b := w.heap.size + 1) rfl rfl rfl rfl rfl H7.out.pn.own.in_.one H7.out.b1 rfl ?_; intro w9 h9))
  refine bodyPost_ret (ret1S rfl rfl h9.box) rfl ?_
  exact ⟨_, _, _, rfl, Own.low (h9.own H7.out.pn.own (by omega)) (by omega), h9.below _ _ (by omega) H7.out.bel⟩
end Scr
end
end Go.Proofs.YtceaoadlhdgnmaaGreatDoor
