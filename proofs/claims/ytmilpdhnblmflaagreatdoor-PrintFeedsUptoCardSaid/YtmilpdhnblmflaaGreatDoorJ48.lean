/- Joined texts: PrnFeed. -/
import Derived.Test.YtmilpdhnblmflaaGreatDoorJ1
import Derived.Test.YtmilpdhnblmflaaGreatDoorJ2
import Derived.Test.YtmilpdhnblmflaaGreatDoorJ3
import Derived.Test.YtmilpdhnblmflaaGreatDoorJ4
import Derived.Test.YtmilpdhnblmflaaGreatDoorJ5
import Derived.Test.YtmilpdhnblmflaaGreatDoorJ6
import Derived.Test.YtmilpdhnblmflaaGreatDoorJ7
import Derived.Test.YtmilpdhnblmflaaGreatDoorJ8
import Derived.Test.YtmilpdhnblmflaaGreatDoorJ9
import Derived.Test.YtmilpdhnblmflaaGreatDoorJ10
import Derived.Test.YtmilpdhnblmflaaGreatDoorJ11
import Derived.Test.YtmilpdhnblmflaaGreatDoorJ12
import Derived.Test.YtmilpdhnblmflaaGreatDoorJ13
import Derived.Test.YtmilpdhnblmflaaGreatDoorJ14
import Derived.Test.YtmilpdhnblmflaaGreatDoorJ15
import Derived.Test.YtmilpdhnblmflaaGreatDoorJ17
import Derived.Test.YtmilpdhnblmflaaGreatDoorJ18
import Derived.Test.YtmilpdhnblmflaaGreatDoorJ19
import Derived.Test.YtmilpdhnblmflaaGreatDoorJ20
import Derived.Test.YtmilpdhnblmflaaGreatDoorJ21
import Derived.Test.YtmilpdhnblmflaaGreatDoorJ22
import Derived.Test.YtmilpdhnblmflaaGreatDoorJ23
import Derived.Test.YtmilpdhnblmflaaGreatDoorJ24
import Derived.Test.YtmilpdhnblmflaaGreatDoorJ27
import Derived.Test.YtmilpdhnblmflaaGreatDoorJ33
import Derived.Test.YtmilpdhnblmflaaGreatDoorJ43
import Derived.Test.YtmilpdhnblmflaaGreatDoorJ44
import Derived.Test.YtmilpdhnblmflaaGreatDoorJ45
import Derived.Test.YtmilpdhnblmflaaGreatDoorJ46
import Derived.Test.YtmilpdhnblmflaaGreatDoorJ47
section
/- A line feed, and one the other way, whole: the developers' Down and Back. -/
namespace Go.Proofs.YtmilpdhnblmflaaGreatDoor
set_option maxRecDepth 100000
open Go.RowKit
namespace Scr
open Go.Proofs.YtmilpdhnblmflaaGreatDoor.Row

/-- Its copy in memory of its own: only the slices are other. -/
structure Pc (w0 : World) (s : S) (x y z : Value) (w : World) : Prop where
  bel : Below w0.heap.size w0 w
  b0 : SBox w w0.heap.size s x y z
  b1 : w.heap[w0.heap.size + 1]? = some (.cells zarr 38 (0, 0))
theorem Pc.kept {w0 w w' : World} {s : S} {x y z : Value} (h : Pc w0 s x y z w) (hb : Below w.heap.size w w') : Pc w0 s x y z w' := ⟨h.bel.trans (hb.mono h.bel.size), h.b0.kept hb, Blk.kept h.b1 hb⟩
theorem Pc.putM {w0 w : World} {s : S} {x y z : Value} (h : Pc w0 s x y z w) (v : Value) : Pc w0 s v y z (w.setCell ⟨w0.heap.size, 2, none⟩ v) :=
  ⟨h.bel.setCell (show w0.heap.size ≤ w0.heap.size by omega) _, Blk.set h.b0 2 v, Blk.other h.b1 (by omega) _ _⟩
theorem Pc.putO {w0 w : World} {s : S} {x y z : Value} (h : Pc w0 s x y z w) (v : Value) : Pc w0 s x v z (w.setCell ⟨w0.heap.size, 5, none⟩ v) :=
  ⟨h.bel.setCell (show w0.heap.size ≤ w0.heap.size by omega) _, Blk.set h.b0 5 v, Blk.other h.b1 (by omega) _ _⟩
theorem Pc.putT {w0 w : World} {s : S} {x y z : Value} (h : Pc w0 s x y z w) (v : Value) : Pc w0 s x y v (w.setCell ⟨w0.heap.size, 39, none⟩ v) :=
  ⟨h.bel.setCell (show w0.heap.size ≤ w0.heap.size by omega) _, Blk.set h.b0 39 v, Blk.other h.b1 (by omega) _ _⟩
theorem Pc.up {w0 w : World} {s : S} {x y z : Value} (h : Pc w0 s x y z w) : w0.heap.size + 2 ≤ w.heap.size := Blk.lt h.b1
theorem Pc.start (w : World) (s : S) (x y z : Value) : Pc w s x y z ((w.alloc (.cells (sarr s x y z) 38)).alloc (.cells zarr 38)) :=
  ⟨(bel_alloc w _).alloc (by simp) _, heap_alloc2_old _ _ _, heap_alloc2_new _ _ _⟩
set_option maxHeartbeats 3200000 in
theorem copied_any (s : S) (x y z : Value) (w : World) (h : In w s x y z) (hl : s.main.cells.length ≤ 1000000 ∧ s.other.cells.length ≤ 1000000 ∧ s.tabs.length ≤ 1000000) :
    Calls Tryz.prog 59 #[sv s x y z] w fun e w' => ∃ x' y' z', e = .returned (sv s x' y' z') ∧ Own w' w.heap.size s x' y' z' ∧ Apart x' y' ∧ Below w.heap.size w w' := by
  have HI := Lib.hid h
  have HL := Lib.hid hl
  have H0 := Lib.hid (Pc.start w s x y z)
  clear h hl
  go_enter Tryz.func59, Tryz.ntmps59
  go_wp2_with (refine wp_allocS1 (w := w) rfl rfl ?_)
  refine (Row.clone_any s.main.cells x _ (HI.out.kept H0.out.bel).m.cs HL.out.1).mono ?_; rintro e w1 ⟨v, rfl, ho, hb⟩
  obtain ⟨A2, n2, c2, rfl⟩ : ∃ A n c, v = .slice A n c := (by obtain ⟨A, c, e, _⟩ := ho.rm.2; exact ⟨A, _, c, e⟩)
  have H1 := Lib.hid (H0.out.kept hb)
  have HU := Lib.hid H0.out.up
  have H2 := Lib.hid (H1.out.putM (.slice A2 n2 c2))
  have HM := Lib.hid ((ho.low HU.out).set (show w.heap.size < w.heap.size + 2 by omega) 2 (.slice A2 n2 c2))
  have f1 : ∀ j, w1.frozen? ⟨w.heap.size, j, none⟩ = false := H1.out.b0.free
  have c1 : ∀ j, w1.cell? ⟨w.heap.size, j, none⟩ = (sarr s x y z)[j]? := H1.out.b0.cell
  clear ho hb H0 HU
  go_upto_region 2 with (fail)
  change Code.wp _ _ _ _ (w1.setCell ⟨w.heap.size, 2, none⟩ (.slice A2 n2 c2))
  clear f1 c1 H1
  generalize w1.setCell ⟨w.heap.size, 2, none⟩ (.slice A2 n2 c2) = w2 at H2 HM ⊢
  have c2' : ∀ j, w2.cell? ⟨w.heap.size, j, none⟩ = (sarr s (.slice A2 n2 c2) y z)[j]? := H2.out.b0.cell
  go_wp2_with fail
  refine (Row.clone_any s.other.cells y _ (HI.out.kept H2.out.bel).o.cs HL.out.2.1).mono ?_; rintro e w3 ⟨v, rfl, ho, hb⟩
  obtain ⟨A3, n3, c3, rfl⟩ : ∃ A n c, v = .slice A n c := (by obtain ⟨A, c, e, _⟩ := ho.rm.2; exact ⟨A, _, c, e⟩)
  have H3 := Lib.hid (H2.out.kept hb)
  have HU := Lib.hid H2.out.up
  have H4 := Lib.hid (H3.out.putO (.slice A3 n3 c3))
  have HAP : Hid (Apart (.slice A2 n2 c2) (.slice A3 n3 c3)) := Lib.hid (fun k e1 e2 => by have h1 := (HM.out.lt k e1).2; have h2 := (ho.lt k e2).1; omega)
  have HM4 := Lib.hid ((HM.out.kept hb).set (show w.heap.size < w.heap.size + 2 by omega) 5 (.slice A3 n3 c3))
  have HO4 := Lib.hid ((ho.low HU.out).set (show w.heap.size < w.heap.size + 2 by omega) 5 (.slice A3 n3 c3))
  have f3 : ∀ j, w3.frozen? ⟨w.heap.size, j, none⟩ = false := H3.out.b0.free
  have c3' : ∀ j, w3.cell? ⟨w.heap.size, j, none⟩ = (sarr s (.slice A2 n2 c2) y z)[j]? := H3.out.b0.cell
  clear ho hb H2 HU HM c2'
  go_upto_region 3 with (fail)
  change Code.wp _ _ _ _ (w3.setCell ⟨w.heap.size, 5, none⟩ (.slice A3 n3 c3))
  clear f3 c3' H3
  generalize w3.setCell ⟨w.heap.size, 5, none⟩ (.slice A3 n3 c3) = w4 at H4 HM4 HO4 ⊢
  have c4' : ∀ j, w4.cell? ⟨w.heap.size, j, none⟩ = (sarr s (.slice A2 n2 c2) (.slice A3 n3 c3) z)[j]? := H4.out.b0.cell
  go_wp2_with fail
  refine (Tab.clone_any s.tabs z _ (HI.out.kept H4.out.bel).t HL.out.2.2).mono ?_; rintro e w5 ⟨v, rfl, ho, hb⟩
  obtain ⟨A5, n5, c5, rfl⟩ : ∃ A n c, v = .slice A n c := (by obtain ⟨A, c, e, _⟩ := ho.bl.room; exact ⟨A, _, c, e⟩)
  have H5 := Lib.hid (H4.out.kept hb)
  have HU := Lib.hid H4.out.up
  have H6 := Lib.hid (H5.out.putT (.slice A5 n5 c5))
  have HO6 : Hid (Own (w5.setCell ⟨w.heap.size, 39, none⟩ (.slice A5 n5 c5)) (w.heap.size + 2) s (.slice A2 n2 c2) (.slice A3 n3 c3) (.slice A5 n5 c5)) := Lib.hid ⟨(HM4.out.kept hb).set (by omega) 39 _, (HO4.out.kept hb).set (by omega) 39 _, ownB_set (ho.low HU.out) (by omega) 39 _⟩
  have f5 : ∀ j, w5.frozen? ⟨w.heap.size, j, none⟩ = false := H5.out.b0.free
  have c5' : ∀ j, w5.cell? ⟨w.heap.size, j, none⟩ = (sarr s (.slice A2 n2 c2) (.slice A3 n3 c3) z)[j]? := H5.out.b0.cell
  clear ho hb H4 HU HM4 HO4 c4'
  go_upto_region 4 with (fail)
  change Code.wp _ _ _ _ (w5.setCell ⟨w.heap.size, 39, none⟩ (.slice A5 n5 c5))
  clear f5 c5' H5
  generalize w5.setCell ⟨w.heap.size, 39, none⟩ (.slice A5 n5 c5) = w6 at H6 HO6 ⊢
  go_wp2_with (first
    | (refine wp_loadS (b := w.heap.size) (s := s) rfl rfl rfl H6.out.b0 ?_)
    | (refine wp_storeS (b := w.heap.size + 1) rfl rfl rfl rfl rfl HO6.out.in_.one H6.out.b1 rfl ?_; intro w9 h9))
  refine bodyPost_ret (ret1S rfl rfl h9.box) rfl ?_
  exact ⟨_, _, _, rfl, Own.low (h9.own HO6.out (by omega)) (by omega), HAP.out, h9.below _ _ (by omega) H6.out.bel⟩
theorem pdown_any (s : S) (x y z : Value) (b base : Nat) (w : World) (h : Pn w b base s x y z) (hok : Ok s) :
    Calls Tryz.prog 70 #[.pointer (some ⟨b, 0, none⟩)] w fun e w' => e = .returned (.tuple #[]) ∧ ∃ x' y', Pn w' b base (downS s) x' y' z ∧ (Apart x y → Apart x' y') ∧ Below b w w' ∧ Only b w w' := by
  unfold downS
  by_cases hr : s.cur.row = s.bottom
  · rw [if_pos hr]; exact pdown_move s x y z b base w h hok hr
  · rw [if_neg hr]; exact pdown_step s x y z b base w h hok hr
set_option maxHeartbeats 3200000 in
theorem moved_down (s : S) (x y z : Value) (w : World) (h : In w s x y z) (hh : Holds s) (hT : Tabs w) (hok : okB s = true) :
    Calls Tryz.prog 69 #[sv s x y z, .func (.func 70) #[] #[]] w fun e w' => ∃ x' y' z', e = .returned (.tuple #[sv (downS s) x' y' z', .int .i64 0]) ∧ Own w' w.heap.size (downS s) x' y' z' ∧ Below w.heap.size w w' := by
  have HI := Lib.hid h
  have H0 := Lib.hid (Rz.start w s x y z)
  have HK := Lib.hid ((ok_iff s).1 hok)
  have HCK := Lib.hid (check_any s x y z _ (h.kept H0.out.bel) hh (hT.kept H0.out.bel))
  rw [hok] at HCK
  unfold codeB at HCK
  clear h hh hT hok
  go_enter Tryz.func69, Tryz.ntmps69
  go_wp2_with (first
    | (refine wp_allocS1 (w := w) rfl rfl ?_)
    | (refine wp_loadS (b := w.heap.size) (s := s) rfl rfl rfl H0.out.b0 ?_))
  refine HCK.out.mono ?_; rintro e w1 ⟨rfl, hb⟩
  have H1 := Lib.hid (H0.out.kept hb)
  clear hb H0 HCK
  go_wp2_with (refine wp_loadS (b := w.heap.size) (s := s) rfl rfl rfl H1.out.b0 ?_)
  refine (copied_any s x y z _ (HI.out.kept H1.out.bel) HK.out.lens).mono ?_; rintro e w2 ⟨x2, y2, z2, rfl, ho, _, hb⟩
  have H2 := Lib.hid (H1.out.kept hb)
  have HO2 := Lib.hid (ho.low H1.out.up)
  clear ho hb H1
  go_wp2_with (refine wp_storeS_then (b := w.heap.size) (A := sarr s x2 y2 z2) (T := Pb w s x2 y2 z2) rfl rfl rfl rfl rfl HO2.out.in_.one H2.out.b0 rfl (fun _ k => Pb.start H2.out HO2.out k) ?_; intro w3 H3)
  refine (pdown_any s x2 y2 z2 w.heap.size (w.heap.size + 2) w3 H3.out.pn HK.out).mono ?_; rintro e w4 ⟨rfl, x4, y4, hp, _, hb, hon⟩
  have HW := Lib.hid (H3.out.only hp hb hon)
  clear hp hb hon H3 H2 HO2
  go_wp2_with (first
    | (refine wp_loadS (b := w.heap.size) (s := downS s) rfl rfl rfl HW.out.pn.box ?_)
    | (refine wp_storeS (b := w.heap.size + 1) rfl rfl rfl rfl rfl HW.out.pn.own.in_.one HW.out.b1 rfl ?_; intro w9 h9))
  refine bodyPost_ret (ret2S rfl rfl h9.box rfl) rfl ?_
  exact ⟨_, _, _, rfl, Own.low (h9.own HW.out.pn.own (by omega)) (by omega), h9.below _ _ (by omega) HW.out.bel⟩
set_option maxHeartbeats 3200000 in
theorem moved_no_down (s : S) (x y z : Value) (w : World) (h : In w s x y z) (hh : Holds s) (hT : Tabs w) (hok : okB s = false) :
    Calls Tryz.prog 69 #[sv s x y z, .func (.func 70) #[] #[]] w fun e w' => e = .returned (.tuple #[sv noS nilS nilS nilS, .int .i64 1]) ∧ Below w.heap.size w w' := by
  have H0 := Lib.hid (Rz.start w s x y z)
  have HCK := Lib.hid (check_any s x y z _ (h.kept H0.out.bel) hh (hT.kept H0.out.bel))
  rw [hok] at HCK
  unfold codeB at HCK
  clear h hh hT hok
  go_enter Tryz.func69, Tryz.ntmps69
  go_wp2_with (first
    | (refine wp_allocS1 (w := w) rfl rfl ?_)
    | (refine wp_loadS (b := w.heap.size) (s := s) rfl rfl rfl H0.out.b0 ?_))
  refine HCK.out.mono ?_; rintro e w1 ⟨rfl, hb⟩
  have H1 := Lib.hid (H0.out.kept hb)
  clear hb H0 HCK
  go_wp2_with (refine wp_storeS (b := w.heap.size + 1) (A := zarr) rfl rfl rfl rfl rfl (sarr_one rfl rfl rfl) H1.out.b1 rfl ?_; intro w7 h7)
  refine bodyPost_ret (ret2S (s := noS) (x := nilS) (y := nilS) (z := nilS) rfl rfl h7.box rfl) rfl ?_
  exact ⟨rfl, h7.below _ _ (by omega) H1.out.bel⟩
set_option maxHeartbeats 1600000 in
theorem down8_any (s : S) (x y z : Value) (w : World) (h : In w s x y z) (hh : Holds s) (hT : Tabs w) (hok : okB s = true) :
    Calls Tryz.prog 27 #[sv s x y z] w fun e w' => ∃ x' y' z', e = .returned (.tuple #[sv (downS s) x' y' z', .int .i64 0]) ∧ Own w' w.heap.size (downS s) x' y' z' ∧ Below w.heap.size w w' := by
  have H0 := Lib.hid (Rz.start w s x y z)
  have HM := Lib.hid (moved_down s x y z _ (h.kept H0.out.bel) hh (hT.kept H0.out.bel) hok)
  clear h hh hT hok
  go_enter Tryz.func27, Tryz.ntmps27
  go_wp2_with (first
    | (refine wp_allocS1 (w := w) rfl rfl ?_)
    | (refine wp_loadS (b := w.heap.size) (s := s) rfl rfl rfl H0.out.b0 ?_))
  refine HM.out.mono ?_; rintro e w1 ⟨x1, y1, z1, rfl, ho, hb⟩
  have H1 := Lib.hid (H0.out.kept hb)
  have HO := Lib.hid (ho.low H0.out.up)
  clear ho hb H0 HM
  go_wp2_with (refine wp_storeS (b := w.heap.size + 1) rfl rfl rfl rfl rfl HO.out.in_.one H1.out.b1 rfl ?_; intro w9 h9)
  refine bodyPost_ret (ret2S rfl rfl h9.box rfl) rfl ?_
  exact ⟨_, _, _, rfl, Own.low (h9.own HO.out (by omega)) (by omega), h9.below _ _ (by omega) H1.out.bel⟩
set_option maxHeartbeats 1600000 in
theorem down8_no (s : S) (x y z : Value) (w : World) (h : In w s x y z) (hh : Holds s) (hT : Tabs w) (hok : okB s = false) :
    Calls Tryz.prog 27 #[sv s x y z] w fun e w' => e = .returned (.tuple #[sv noS nilS nilS nilS, .int .i64 1]) ∧ Below w.heap.size w w' := by
  have H0 := Lib.hid (Rz.start w s x y z)
  have HM := Lib.hid (moved_no_down s x y z _ (h.kept H0.out.bel) hh (hT.kept H0.out.bel) hok)
  clear h hh hT hok
  go_enter Tryz.func27, Tryz.ntmps27
  go_wp2_with (first
    | (refine wp_allocS1 (w := w) rfl rfl ?_)
    | (refine wp_loadS (b := w.heap.size) (s := s) rfl rfl rfl H0.out.b0 ?_))
  refine HM.out.mono ?_; rintro e w1 ⟨rfl, hb⟩
  have H1 := Lib.hid (H0.out.kept hb)
  clear hb H0 HM
  go_wp2_with (refine wp_storeS (b := w.heap.size + 1) (A := zarr) rfl rfl rfl rfl rfl (sarr_one rfl rfl rfl) H1.out.b1 rfl ?_; intro w7 h7)
  refine bodyPost_ret (ret2S (s := noS) (x := nilS) (y := nilS) (z := nilS) rfl rfl h7.box rfl) rfl ?_
  exact ⟨rfl, h7.below _ _ (by omega) H1.out.bel⟩
theorem pback_any (s : S) (x y z : Value) (b base : Nat) (w : World) (h : Pn w b base s x y z) (hok : Ok s) :
    Calls Tryz.prog 71 #[.pointer (some ⟨b, 0, none⟩)] w fun e w' => e = .returned (.tuple #[]) ∧ ∃ x' y', Pn w' b base (backS s) x' y' z ∧ (Apart x y → Apart x' y') ∧ Below b w w' ∧ Only b w w' := by
  unfold backS
  by_cases hr : s.cur.row = s.top
  · rw [if_pos hr]; exact pback_move s x y z b base w h hok hr
  · rw [if_neg hr]; exact pback_step s x y z b base w h hok hr
set_option maxHeartbeats 3200000 in
theorem moved_back (s : S) (x y z : Value) (w : World) (h : In w s x y z) (hh : Holds s) (hT : Tabs w) (hok : okB s = true) :
    Calls Tryz.prog 69 #[sv s x y z, .func (.func 71) #[] #[]] w fun e w' => ∃ x' y' z', e = .returned (.tuple #[sv (backS s) x' y' z', .int .i64 0]) ∧ Own w' w.heap.size (backS s) x' y' z' ∧ Below w.heap.size w w' := by
  have HI := Lib.hid h
  have H0 := Lib.hid (Rz.start w s x y z)
  have HK := Lib.hid ((ok_iff s).1 hok)
  have HCK := Lib.hid (check_any s x y z _ (h.kept H0.out.bel) hh (hT.kept H0.out.bel))
  rw [hok] at HCK
  unfold codeB at HCK
  clear h hh hT hok
  go_enter Tryz.func69, Tryz.ntmps69
  go_wp2_with (first
    | (refine wp_allocS1 (w := w) rfl rfl ?_)
    | (refine wp_loadS (b := w.heap.size) (s := s) rfl rfl rfl H0.out.b0 ?_))
  refine HCK.out.mono ?_; rintro e w1 ⟨rfl, hb⟩
  have H1 := Lib.hid (H0.out.kept hb)
  clear hb H0 HCK
  go_wp2_with (refine wp_loadS (b := w.heap.size) (s := s) rfl rfl rfl H1.out.b0 ?_)
  refine (copied_any s x y z _ (HI.out.kept H1.out.bel) HK.out.lens).mono ?_; rintro e w2 ⟨x2, y2, z2, rfl, ho, _, hb⟩
  have H2 := Lib.hid (H1.out.kept hb)
  have HO2 := Lib.hid (ho.low H1.out.up)
  clear ho hb H1
  go_wp2_with (refine wp_storeS_then (b := w.heap.size) (A := sarr s x2 y2 z2) (T := Pb w s x2 y2 z2) rfl rfl rfl rfl rfl HO2.out.in_.one H2.out.b0 rfl (fun _ k => Pb.start H2.out HO2.out k) ?_; intro w3 H3)
  refine (pback_any s x2 y2 z2 w.heap.size (w.heap.size + 2) w3 H3.out.pn HK.out).mono ?_; rintro e w4 ⟨rfl, x4, y4, hp, _, hb, hon⟩
  have HW := Lib.hid (H3.out.only hp hb hon)
  clear hp hb hon H3 H2 HO2
  go_wp2_with (first
    | (refine wp_loadS (b := w.heap.size) (s := backS s) rfl rfl rfl HW.out.pn.box ?_)
    | (refine wp_storeS (b := w.heap.size + 1) rfl rfl rfl rfl rfl HW.out.pn.own.in_.one HW.out.b1 rfl ?_; intro w9 h9))
  refine bodyPost_ret (ret2S rfl rfl h9.box rfl) rfl ?_
  exact ⟨_, _, _, rfl, Own.low (h9.own HW.out.pn.own (by omega)) (by omega), h9.below _ _ (by omega) HW.out.bel⟩
set_option maxHeartbeats 3200000 in
theorem moved_no_back (s : S) (x y z : Value) (w : World) (h : In w s x y z) (hh : Holds s) (hT : Tabs w) (hok : okB s = false) :
    Calls Tryz.prog 69 #[sv s x y z, .func (.func 71) #[] #[]] w fun e w' => e = .returned (.tuple #[sv noS nilS nilS nilS, .int .i64 1]) ∧ Below w.heap.size w w' := by
  have H0 := Lib.hid (Rz.start w s x y z)
  have HCK := Lib.hid (check_any s x y z _ (h.kept H0.out.bel) hh (hT.kept H0.out.bel))
  rw [hok] at HCK
  unfold codeB at HCK
  clear h hh hT hok
  go_enter Tryz.func69, Tryz.ntmps69
  go_wp2_with (first
    | (refine wp_allocS1 (w := w) rfl rfl ?_)
    | (refine wp_loadS (b := w.heap.size) (s := s) rfl rfl rfl H0.out.b0 ?_))
  refine HCK.out.mono ?_; rintro e w1 ⟨rfl, hb⟩
  have H1 := Lib.hid (H0.out.kept hb)
  clear hb H0 HCK
  go_wp2_with (refine wp_storeS (b := w.heap.size + 1) (A := zarr) rfl rfl rfl rfl rfl (sarr_one rfl rfl rfl) H1.out.b1 rfl ?_; intro w7 h7)
  refine bodyPost_ret (ret2S (s := noS) (x := nilS) (y := nilS) (z := nilS) rfl rfl h7.box rfl) rfl ?_
  exact ⟨rfl, h7.below _ _ (by omega) H1.out.bel⟩
set_option maxHeartbeats 1600000 in
theorem back8_any (s : S) (x y z : Value) (w : World) (h : In w s x y z) (hh : Holds s) (hT : Tabs w) (hok : okB s = true) :
    Calls Tryz.prog 28 #[sv s x y z] w fun e w' => ∃ x' y' z', e = .returned (.tuple #[sv (backS s) x' y' z', .int .i64 0]) ∧ Own w' w.heap.size (backS s) x' y' z' ∧ Below w.heap.size w w' := by
  have H0 := Lib.hid (Rz.start w s x y z)
  have HM := Lib.hid (moved_back s x y z _ (h.kept H0.out.bel) hh (hT.kept H0.out.bel) hok)
  clear h hh hT hok
  go_enter Tryz.func28, Tryz.ntmps28
  go_wp2_with (first
    | (refine wp_allocS1 (w := w) rfl rfl ?_)
    | (refine wp_loadS (b := w.heap.size) (s := s) rfl rfl rfl H0.out.b0 ?_))
  refine HM.out.mono ?_; rintro e w1 ⟨x1, y1, z1, rfl, ho, hb⟩
  have H1 := Lib.hid (H0.out.kept hb)
  have HO := Lib.hid (ho.low H0.out.up)
  clear ho hb H0 HM
  go_wp2_with (refine wp_storeS (b := w.heap.size + 1) rfl rfl rfl rfl rfl HO.out.in_.one H1.out.b1 rfl ?_; intro w9 h9)
  refine bodyPost_ret (ret2S rfl rfl h9.box rfl) rfl ?_
  exact ⟨_, _, _, rfl, Own.low (h9.own HO.out (by omega)) (by omega), h9.below _ _ (by omega) H1.out.bel⟩
set_option maxHeartbeats 1600000 in
theorem back8_no (s : S) (x y z : Value) (w : World) (h : In w s x y z) (hh : Holds s) (hT : Tabs w) (hok : okB s = false) :
    Calls Tryz.prog 28 #[sv s x y z] w fun e w' => e = .returned (.tuple #[sv noS nilS nilS nilS, .int .i64 1]) ∧ Below w.heap.size w w' := by
  have H0 := Lib.hid (Rz.start w s x y z)
  have HM := Lib.hid (moved_no_back s x y z _ (h.kept H0.out.bel) hh (hT.kept H0.out.bel) hok)
  clear h hh hT hok
  go_enter Tryz.func28, Tryz.ntmps28
  go_wp2_with (first
    | (refine wp_allocS1 (w := w) rfl rfl ?_)
    | (refine wp_loadS (b := w.heap.size) (s := s) rfl rfl rfl H0.out.b0 ?_))
  refine HM.out.mono ?_; rintro e w1 ⟨rfl, hb⟩
  have H1 := Lib.hid (H0.out.kept hb)
  clear hb H0 HM
  go_wp2_with (refine wp_storeS (b := w.heap.size + 1) (A := zarr) rfl rfl rfl rfl rfl (sarr_one rfl rfl rfl) H1.out.b1 rfl ?_; intro w7 h7)
  refine bodyPost_ret (ret2S (s := noS) (x := nilS) (y := nilS) (z := nilS) rfl rfl h7.box rfl) rfl ?_
  exact ⟨rfl, h7.below _ _ (by omega) H1.out.bel⟩
end Scr
end Go.Proofs.YtmilpdhnblmflaaGreatDoor
end
