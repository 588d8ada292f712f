/- Joined texts: PrnFeed. -/
import Derived.Test.YtgjpojaegjdjcaaGreatDoorJ1
import Derived.Test.YtgjpojaegjdjcaaGreatDoorJ2
import Derived.Test.YtgjpojaegjdjcaaGreatDoorJ3
import Derived.Test.YtgjpojaegjdjcaaGreatDoorJ4
import Derived.Test.YtgjpojaegjdjcaaGreatDoorJ5
import Derived.Test.YtgjpojaegjdjcaaGreatDoorJ6
import Derived.Test.YtgjpojaegjdjcaaGreatDoorJ7
import Derived.Test.YtgjpojaegjdjcaaGreatDoorJ8
import Derived.Test.YtgjpojaegjdjcaaGreatDoorJ9
import Derived.Test.YtgjpojaegjdjcaaGreatDoorJ10
import Derived.Test.YtgjpojaegjdjcaaGreatDoorJ11
import Derived.Test.YtgjpojaegjdjcaaGreatDoorJ12
import Derived.Test.YtgjpojaegjdjcaaGreatDoorJ13
import Derived.Test.YtgjpojaegjdjcaaGreatDoorJ14
import Derived.Test.YtgjpojaegjdjcaaGreatDoorJ15
import Derived.Test.YtgjpojaegjdjcaaGreatDoorJ17
import Derived.Test.YtgjpojaegjdjcaaGreatDoorJ18
import Derived.Test.YtgjpojaegjdjcaaGreatDoorJ19
import Derived.Test.YtgjpojaegjdjcaaGreatDoorJ20
import Derived.Test.YtgjpojaegjdjcaaGreatDoorJ21
import Derived.Test.YtgjpojaegjdjcaaGreatDoorJ22
import Derived.Test.YtgjpojaegjdjcaaGreatDoorJ23
import Derived.Test.YtgjpojaegjdjcaaGreatDoorJ24
import Derived.Test.YtgjpojaegjdjcaaGreatDoorJ27
import Derived.Test.YtgjpojaegjdjcaaGreatDoorJ43
import Derived.Test.YtgjpojaegjdjcaaGreatDoorJ44
import Derived.Test.YtgjpojaegjdjcaaGreatDoorJ45
import Derived.Test.YtgjpojaegjdjcaaGreatDoorJ46
import Derived.Test.YtgjpojaegjdjcaaGreatDoorJ61
import Derived.Deep.CutRange
section
/- A line feed, and one the other way, whole: the developers' Down and Back. -/
namespace Go.Proofs.YtgjpojaegjdjcaaGreatDoor
set_option maxRecDepth 100000
open Go.RowKit
namespace Scr
open Go.Proofs.YtgjpojaegjdjcaaGreatDoor.Row

set_option maxHeartbeats 3200000 in
theorem copied_any (s : S) (x y z : Value) (w : World) (h : In w s x y z) (hl : s.main.cells.length ≤ 1000000 ∧ s.other.cells.length ≤ 1000000 ∧ s.tabs.length ≤ 1000000) :
    Calls Tryz.prog 35 #[sv s x y z] w fun e w' => ∃ x' y' z', e = .returned (sv s x' y' z') ∧ Own w' w.heap.size s x' y' z' ∧ Apart x' y' ∧ Below w.heap.size w w' := by
  have HI := Lib.hid h
  have HL := Lib.hid hl
  have H0 := Lib.hid (Pc.start w s x y z)
  clear h hl
  go_enter Tryz.func35, Tryz.ntmps35
  go_wp2_with (refine wp_allocS1 (w := w) rfl rfl ?_)
  refine (Row.clone_any s.main.cells x _ (HI.out.kept H0.out.bel).m.cs HL.out.1).mono ?_; rintro e w1 ⟨v, rfl, ho, hb⟩
  obtain ⟨A2, n2, c2, rfl⟩ : ∃ A n c, v = .slice A n c := (by obtain ⟨A, c, e, _⟩ := ho.rm.2; exact ⟨A, _, c, e⟩)
  have H1 := Lib.hid (H0.out.kept hb)
  have HU := Lib.hid H0.out.up
  have H2 := Lib.hid (H1.out.putM (.slice A2 n2 c2))
  have HM := Lib.hid ((ho.low HU.out).set (show w.heap.size < w.heap.size + 2 by omega) 2 (.slice A2 n2 c2))
  have f1 : ∀ j, w1.frozen? ⟨w.heap.size, j, none⟩ = false := H1.out.b0.free
  have c1 : ∀ j, w1.cell? ⟨w.heap.size, j, none⟩ = (sarr s x y z)[j]? := H1.out.b0.cell
  clear ho hb H0 HU
  go_upto_region 2 with (fail)
  change Code.wp _ _ _ _ (w1.setCell ⟨w.heap.size, 2, none⟩ (.slice A2 n2 c2))
  clear f1 c1 H1
  generalize w1.setCell ⟨w.heap.size, 2, none⟩ (.slice A2 n2 c2) = w2 at H2 HM ⊢
  have c2' : ∀ j, w2.cell? ⟨w.heap.size, j, none⟩ = (sarr s (.slice A2 n2 c2) y z)[j]? := H2.out.b0.cell
  go_wp2_with fail
  refine (Row.clone_any s.other.cells y _ (HI.out.kept H2.out.bel).o.cs HL.out.2.1).mono ?_; rintro e w3 ⟨v, rfl, ho, hb⟩
  obtain ⟨A3, n3, c3, rfl⟩ : ∃ A n c, v = .slice A n c := (by obtain ⟨A, c, e, _⟩ := ho.rm.2; exact ⟨A, _, c, e⟩)
  have H3 := Lib.hid (H2.out.kept hb)
  have HU := Lib.hid H2.out.up
  have H4 := Lib.hid (H3.out.putO (.slice A3 n3 c3))
  have HAP : Hid (Apart (.slice A2 n2 c2) (.slice A3 n3 c3)) := Lib.hid (fun k e1 e2 => by have h1 := (HM.out.lt k e1).2; have h2 := (ho.lt k e2).1; omega)
  have HM4 := Lib.hid ((HM.out.kept hb).set (show w.heap.size < w.heap.size + 2 by omega) 5 (.slice A3 n3 c3))
  have HO4 := Lib.hid ((ho.low HU.out).set (show w.heap.size < w.heap.size + 2 by omega) 5 (.slice A3 n3 c3))
  have f3 : ∀ j, w3.frozen? ⟨w.heap.size, j, none⟩ = false := H3.out.b0.free
  have c3' : ∀ j, w3.cell? ⟨w.heap.size, j, none⟩ = (sarr s (.slice A2 n2 c2) y z)[j]? := H3.out.b0.cell
  clear ho hb H2 HU HM c2'
  go_upto_region 3 with (fail)
  change Code.wp _ _ _ _ (w3.setCell ⟨w.heap.size, 5, none⟩ (.slice A3 n3 c3))
  clear f3 c3' H3
  generalize w3.setCell ⟨w.heap.size, 5, none⟩ (.slice A3 n3 c3) = w4 at H4 HM4 HO4 ⊢
  have c4' : ∀ j, w4.cell? ⟨w.heap.size, j, none⟩ = (sarr s (.slice A2 n2 c2) (.slice A3 n3 c3) z)[j]? := H4.out.b0.cell
  go_wp2_with fail
  refine (Tab.clone_any s.tabs z _ (HI.out.kept H4.out.bel).t HL.out.2.2).mono ?_; rintro e w5 ⟨v, rfl, ho, hb⟩
  obtain ⟨A5, n5, c5, rfl⟩ : ∃ A n c, v = .slice A n c := (by obtain ⟨A, c, e, _⟩ := ho.bl.room; exact ⟨A, _, c, e⟩)
  have H5 := Lib.hid (H4.out.kept hb)
  have HU := Lib.hid H4.out.up
  have H6 := Lib.hid (H5.out.putT (.slice A5 n5 c5))
  have HO6 : Hid (Own (w5.setCell ⟨w.heap.size, 39, none⟩ (.slice A5 n5 c5)) (w.heap.size + 2) s (.slice A2 n2 c2) (.slice A3 n3 c3) (.slice A5 n5 c5)) := Lib.hid ⟨(HM4.out.kept hb).set (by omega) 39 _, (HO4.out.kept hb).set (by omega) 39 _, ownB_set (ho.low HU.out) (by omega) 39 _⟩
  have f5 : ∀ j, w5.frozen? ⟨w.heap.size, j, none⟩ = false := H5.out.b0.free
  have c5' : ∀ j, w5.cell? ⟨w.heap.size, j, none⟩ = (sarr s (.slice A2 n2 c2) (.slice A3 n3 c3) z)[j]? := H5.out.b0.cell
  clear ho hb H4 HU HM4 HO4 c4'
  go_upto_region 4 with (fail)
  change Code.wp _ _ _ _ (w5.setCell ⟨w.heap.size, 39, none⟩ (.slice A5 n5 c5))
  clear f5 c5' H5
  generalize w5.setCell ⟨w.heap.size, 39, none⟩ (.slice A5 n5 c5) = w6 at H6 HO6 ⊢
  go_wp2_with (first
    | (refine wp_loadS (b := w.heap.size) (s := s) rfl rfl rfl H6.out.b0 ?_)
    | (refine wp_storeS (b := w.heap.size + 1) rfl rfl rfl rfl rfl HO6.out.in_.one H6.out.b1 rfl ?_; intro w9 h9))
  refine bodyPost_ret (ret1S rfl rfl h9.box) rfl ?_
  exact ⟨_, _, _, rfl, Own.low (h9.own HO6.out (by omega)) (by omega), HAP.out, h9.below _ _ (by omega) H6.out.bel⟩
theorem pdown_any (s : S) (x y z : Value) (b base : Nat) (w : World) (h : Pn w b base s x y z) (hok : Ok s) :
    Calls Tryz.prog 55 #[.pointer (some ⟨b, 0, none⟩)] w fun e w' => e = .returned (.tuple #[]) ∧ ∃ x' y', Pn w' b base (downS s) x' y' z ∧ (Apart x y → Apart x' y') ∧ Below b w w' ∧ Only b w w' := by
  unfold downS
  by_cases hr : s.cur.row = s.bottom
  · rw [if_pos hr]; exact pdown_move s x y z b base w h hok hr
  · rw [if_neg hr]; exact pdown_step s x y z b base w h hok hr
set_option maxHeartbeats 3200000 in
theorem moved_down (s : S) (x y z : Value) (w : World) (h : In w s x y z) (hh : Holds s) (hT : Tabs w) (hok : okB s = true) :
    Calls Tryz.prog 54 #[sv s x y z, .func (.func 55) #[] #[]] w fun e w' => ∃ x' y' z', e = .returned (.tuple #[sv (downS s) x' y' z', .int .i64 0]) ∧ Own w' w.heap.size (downS s) x' y' z' ∧ Below w.heap.size w w' := by
  have HI := Lib.hid h
  have H0 := Lib.hid (Rz.start w s x y z)
  have HK := Lib.hid ((ok_iff s).1 hok)
  have HCK := Lib.hid (check_any s x y z _ (h.kept H0.out.bel) hh (hT.kept H0.out.bel))
  rw [hok] at HCK
  unfold codeB at HCK
  clear h hh hT hok
  go_enter Tryz.func54, Tryz.ntmps54
  go_wp2_with (first
    | (refine wp_allocS1 (w := w) rfl rfl ?_)
    | (refine wp_loadS (b := w.heap.size) (s := s) rfl rfl rfl H0.out.b0 ?_))
  refine HCK.out.mono ?_; rintro e w1 ⟨rfl, hb⟩
  have H1 := Lib.hid (H0.out.kept hb)
  clear hb H0 HCK
  go_wp2_with (refine wp_loadS (b := w.heap.size) (s := s) rfl rfl rfl H1.out.b0 ?_)
  refine (copied_any s x y z _ (HI.out.kept H1.out.bel) HK.out.lens).mono ?_; rintro e w2 ⟨x2, y2, z2, rfl, ho, _, hb⟩
  have H2 := Lib.hid (H1.out.kept hb)
  have HO2 := Lib.hid (ho.low H1.out.up)
  clear ho hb H1
  go_wp2_with (refine wp_storeS_then (b := w.heap.size) (A := sarr s x2 y2 z2) (T := Pb w s x2 y2 z2) rfl rfl rfl rfl rfl HO2.out.in_.one H2.out.b0 rfl (fun _ k => Pb.start H2.out HO2.out k) ?_; intro w3 H3)
  refine (pdown_any s x2 y2 z2 w.heap.size (w.heap.size + 2) w3 H3.out.pn HK.out).mono ?_; rintro e w4 ⟨rfl, x4, y4, hp, _, hb, hon⟩
  have HW := Lib.hid (H3.out.only hp hb hon)
  clear hp hb hon H3 H2 HO2
  go_wp2_with (first
    | (refine wp_loadS (b := w.heap.size) (s := downS s) rfl rfl rfl HW.out.pn.box ?_)
    | (refine wp_storeS (b := w.heap.size + 1) rfl rfl rfl rfl rfl HW.out.pn.own.in_.one HW.out.b1 rfl ?_; intro w9 h9))
  refine bodyPost_ret (ret2S rfl rfl h9.box rfl) rfl ?_
  exact ⟨_, _, _, rfl, Own.low (h9.own HW.out.pn.own (by omega)) (by omega), h9.below _ _ (by omega) HW.out.bel⟩
set_option maxHeartbeats 3200000 in
theorem moved_no_down (s : S) (x y z : Value) (w : World) (h : In w s x y z) (hh : Holds s) (hT : Tabs w) (hok : okB s = false) :
    Calls Tryz.prog 54 #[sv s x y z, .func (.func 55) #[] #[]] w fun e w' => e = .returned (.tuple #[sv noS nilS nilS nilS, .int .i64 1]) ∧ Below w.heap.size w w' := by
  have H0 := Lib.hid (Rz.start w s x y z)
  have HCK := Lib.hid (check_any s x y z _ (h.kept H0.out.bel) hh (hT.kept H0.out.bel))
  rw [hok] at HCK
  unfold codeB at HCK
  clear h hh hT hok
  go_enter Tryz.func54, Tryz.ntmps54
  go_wp2_with (first
    | (refine wp_allocS1 (w := w) rfl rfl ?_)
    | (refine wp_loadS (b := w.heap.size) (s := s) rfl rfl rfl H0.out.b0 ?_))
  refine HCK.out.mono ?_; rintro e w1 ⟨rfl, hb⟩
  have H1 := Lib.hid (H0.out.kept hb)
  clear hb H0 HCK
  go_wp2_with (refine wp_storeS (b := w.heap.size + 1) (A := zarr) rfl rfl rfl rfl rfl (sarr_one rfl rfl rfl) H1.out.b1 rfl ?_; intro w7 h7)
  refine bodyPost_ret (ret2S (s := noS) (x := nilS) (y := nilS) (z := nilS) rfl rfl h7.box rfl) rfl ?_
  exact ⟨rfl, h7.below _ _ (by omega) H1.out.bel⟩
set_option maxHeartbeats 1600000 in
theorem down8_any (s : S) (x y z : Value) (w : World) (h : In w s x y z) (hh : Holds s) (hT : Tabs w) (hok : okB s = true) :
    Calls Tryz.prog 15 #[sv s x y z] w fun e w' => ∃ x' y' z', e = .returned (.tuple #[sv (downS s) x' y' z', .int .i64 0]) ∧ Own w' w.heap.size (downS s) x' y' z' ∧ Below w.heap.size w w' := by
  have H0 := Lib.hid (Rz.start w s x y z)
  have HM := Lib.hid (moved_down s x y z _ (h.kept H0.out.bel) hh (hT.kept H0.out.bel) hok)
  clear h hh hT hok
  go_enter Tryz.func15, Tryz.ntmps15
  go_wp2_with (first
    | (refine wp_allocS1 (w := w) rfl rfl ?_)
    | (refine wp_loadS (b := w.heap.size) (s := s) rfl rfl rfl H0.out.b0 ?_))
  refine HM.out.mono ?_; rintro e w1 ⟨x1, y1, z1, rfl, ho, hb⟩
  have H1 := Lib.hid (H0.out.kept hb)
  have HO := Lib.hid (ho.low H0.out.up)
  clear ho hb H0 HM
  go_wp2_with (refine wp_storeS (b := w.heap.size + 1) rfl rfl rfl rfl rfl HO.out.in_.one H1.out.b1 rfl ?_; intro w9 h9)
  refine bodyPost_ret (ret2S rfl rfl h9.box rfl) rfl ?_
  exact ⟨_, _, _, rfl, Own.low (h9.own HO.out (by omega)) (by omega), h9.below _ _ (by omega) H1.out.bel⟩
set_option maxHeartbeats 1600000 in
theorem down8_no (s : S) (x y z : Value) (w : World) (h : In w s x y z) (hh : Holds s) (hT : Tabs w) (hok : okB s = false) :
    Calls Tryz.prog 15 #[sv s x y z] w fun e w' => e = .returned (.tuple #[sv noS nilS nilS nilS, .int .i64 1]) ∧ Below w.heap.size w w' := by
  have H0 := Lib.hid (Rz.start w s x y z)
  have HM := Lib.hid (moved_no_down s x y z _ (h.kept H0.out.bel) hh (hT.kept H0.out.bel) hok)
  clear h hh hT hok
  go_enter Tryz.func15, Tryz.ntmps15
  go_wp2_with (first
    | (refine wp_allocS1 (w := w) rfl rfl ?_)
    | (refine wp_loadS (b := w.heap.size) (s := s) rfl rfl rfl H0.out.b0 ?_))
  refine HM.out.mono ?_; rintro e w1 ⟨rfl, hb⟩
  have H1 := Lib.hid (H0.out.kept hb)
  clear hb H0 HM
  go_wp2_with (refine wp_storeS (b := w.heap.size + 1) (A := zarr) rfl rfl rfl rfl rfl (sarr_one rfl rfl rfl) H1.out.b1 rfl ?_; intro w7 h7)
  refine bodyPost_ret (ret2S (s := noS) (x := nilS) (y := nilS) (z := nilS) rfl rfl h7.box rfl) rfl ?_
  exact ⟨rfl, h7.below _ _ (by omega) H1.out.bel⟩
theorem pback_any (s : S) (x y z : Value) (b base : Nat) (w : World) (h : Pn w b base s x y z) (hok : Ok s) :
    Calls Tryz.prog 56 #[.pointer (some ⟨b, 0, none⟩)] w fun e w' => e = .returned (.tuple #[]) ∧ ∃ x' y', Pn w' b base (backS s) x' y' z ∧ (Apart x y → Apart x' y') ∧ Below b w w' ∧ Only b w w' := by
  unfold backS
  by_cases hr : s.cur.row = s.top
  · rw [if_pos hr]; exact pback_move s x y z b base w h hok hr
  · rw [if_neg hr]; exact pback_step s x y z b base w h hok hr
set_option maxHeartbeats 3200000 in
theorem moved_back (s : S) (x y z : Value) (w : World) (h : In w s x y z) (hh : Holds s) (hT : Tabs w) (hok : okB s = true) :
    Calls Tryz.prog 54 #[sv s x y z, .func (.func 56) #[] #[]] w fun e w' => ∃ x' y' z', e = .returned (.tuple #[sv (backS s) x' y' z', .int .i64 0]) ∧ Own w' w.heap.size (backS s) x' y' z' ∧ Below w.heap.size w w' := by
  have HI := Lib.hid h
  have H0 := Lib.hid (Rz.start w s x y z)
  have HK := Lib.hid ((ok_iff s).1 hok)
  have HCK := Lib.hid (check_any s x y z _ (h.kept H0.out.bel) hh (hT.kept H0.out.bel))
  rw [hok] at HCK
  unfold codeB at HCK
  clear h hh hT hok
  go_enter Tryz.func54, Tryz.ntmps54
  go_wp2_with (first
    | (refine wp_allocS1 (w := w) rfl rfl ?_)
    | (refine wp_loadS (b := w.heap.size) (s := s) rfl rfl rfl H0.out.b0 ?_))
  refine HCK.out.mono ?_; rintro e w1 ⟨rfl, hb⟩
  have H1 := Lib.hid (H0.out.kept hb)
  clear hb H0 HCK
  go_wp2_with (refine wp_loadS (b := w.heap.size) (s := s) rfl rfl rfl H1.out.b0 ?_)
  refine (copied_any s x y z _ (HI.out.kept H1.out.bel) HK.out.lens).mono ?_; rintro e w2 ⟨x2, y2, z2, rfl, ho, _, hb⟩
  have H2 := Lib.hid (H1.out.kept hb)
  have HO2 := Lib.hid (ho.low H1.out.up)
  clear ho hb H1
  go_wp2_with (refine wp_storeS_then (b := w.heap.size) (A := sarr s x2 y2 z2) (T := Pb w s x2 y2 z2) rfl rfl rfl rfl rfl HO2.out.in_.one H2.out.b0 rfl (fun _ k => Pb.start H2.out HO2.out k) ?_; intro w3 H3)
  refine (pback_any s x2 y2 z2 w.heap.size (w.heap.size + 2) w3 H3.out.pn HK.out).mono ?_; rintro e w4 ⟨rfl, x4, y4, hp, _, hb, hon⟩
  have HW := Lib.hid (H3.out.only hp hb hon)
  clear hp hb hon H3 H2 HO2
  go_wp2_with (first
    | (refine wp_loadS (b := w.heap.size) (s := backS s) rfl rfl rfl HW.out.pn.box ?_)
    | (refine wp_storeS (b := w.heap.size + 1) rfl rfl rfl rfl rfl HW.out.pn.own.in_.one HW.out.b1 rfl ?_; intro w9 h9))
  refine bodyPost_ret (ret2S rfl rfl h9.box rfl) rfl ?_
  exact ⟨_, _, _, rfl, Own.low (h9.own HW.out.pn.own (by omega)) (by omega), h9.below _ _ (by omega) HW.out.bel⟩
set_option maxHeartbeats 3200000 in
theorem moved_no_back (s : S) (x y z : Value) (w : World) (h : In w s x y z) (hh : Holds s) (hT : Tabs w) (hok : okB s = false) :
    Calls Tryz.prog 54 #[sv s x y z, .func (.func 56) #[] #[]] w fun e w' => e = .returned (.tuple #[sv noS nilS nilS nilS, .int .i64 1]) ∧ Below w.heap.size w w' := by
  have H0 := Lib.hid (Rz.start w s x y z)
  have HCK := Lib.hid (check_any s x y z _ (h.kept H0.out.bel) hh (hT.kept H0.out.bel))
  rw [hok] at HCK
  unfold codeB at HCK
  clear h hh hT hok
  go_enter Tryz.func54, Tryz.ntmps54
  go_wp2_with (first
    | (refine wp_allocS1 (w := w) rfl rfl ?_)
    | (refine wp_loadS (b := w.heap.size) (s := s) rfl rfl rfl H0.out.b0 ?_))
  refine HCK.out.mono ?_; rintro e w1 ⟨rfl, hb⟩
  have H1 := Lib.hid (H0.out.kept hb)
  clear hb H0 HCK
  go_wp2_with (refine wp_storeS (b := w.heap.size + 1) (A := zarr) rfl rfl rfl rfl rfl (sarr_one rfl rfl rfl) H1.out.b1 rfl ?_; intro w7 h7)
  refine bodyPost_ret (ret2S (s := noS) (x := nilS) (y := nilS) (z := nilS) rfl rfl h7.box rfl) rfl ?_
  exact ⟨rfl, h7.below _ _ (by omega) H1.out.bel⟩
set_option maxHeartbeats 1600000 in
theorem back8_any (s : S) (x y z : Value) (w : World) (h : In w s x y z) (hh : Holds s) (hT : Tabs w) (hok : okB s = true) :
    Calls Tryz.prog 16 #[sv s x y z] w fun e w' => ∃ x' y' z', e = .returned (.tuple #[sv (backS s) x' y' z', .int .i64 0]) ∧ Own w' w.heap.size (backS s) x' y' z' ∧ Below w.heap.size w w' := by
  have H0 := Lib.hid (Rz.start w s x y z)
  have HM := Lib.hid (moved_back s x y z _ (h.kept H0.out.bel) hh (hT.kept H0.out.bel) hok)
  clear h hh hT hok
  go_enter Tryz.func16, Tryz.ntmps16
  go_wp2_with (first
    | (refine wp_allocS1 (w := w) rfl rfl ?_)
    | (refine wp_loadS (b := w.heap.size) (s := s) rfl rfl rfl H0.out.b0 ?_))
  refine HM.out.mono ?_; rintro e w1 ⟨x1, y1, z1, rfl, ho, hb⟩
  have H1 := Lib.hid (H0.out.kept hb)
  have HO := Lib.hid (ho.low H0.out.up)
  clear ho hb H0 HM
  go_wp2_with (refine wp_storeS (b := w.heap.size + 1) rfl rfl rfl rfl rfl HO.out.in_.one H1.out.b1 rfl ?_; intro w9 h9)
  refine bodyPost_ret (ret2S rfl rfl h9.box rfl) rfl ?_
  exact ⟨_, _, _, rfl, Own.low (h9.own HO.out (by omega)) (by omega), h9.below _ _ (by omega) H1.out.bel⟩
set_option maxHeartbeats 1600000 in
theorem back8_no (s : S) (x y z : Value) (w : World) (h : In w s x y z) (hh : Holds s) (hT : Tabs w) (hok : okB s = false) :
    Calls Tryz.prog 16 #[sv s x y z] w fun e w' => e = .returned (.tuple #[sv noS nilS nilS nilS, .int .i64 1]) ∧ Below w.heap.size w w' := by
  have H0 := Lib.hid (Rz.start w s x y z)
  have HM := Lib.hid (moved_no_back s x y z _ (h.kept H0.out.bel) hh (hT.kept H0.out.bel) hok)
  clear h hh hT hok
  go_enter Tryz.func16, Tryz.ntmps16
  go_wp2_with (first
    | (refine wp_allocS1 (w := w) rfl rfl ?_)
    | (refine wp_loadS (b := w.heap.size) (s := s) rfl rfl rfl H0.out.b0 ?_))
  refine HM.out.mono ?_; rintro e w1 ⟨rfl, hb⟩
  have H1 := Lib.hid (H0.out.kept hb)
  clear hb H0 HM
  go_wp2_with (refine wp_storeS (b := w.heap.size + 1) (A := zarr) rfl rfl rfl rfl rfl (sarr_one rfl rfl rfl) H1.out.b1 rfl ?_; intro w7 h7)
  refine bodyPost_ret (ret2S (s := noS) (x := nilS) (y := nilS) (z := nilS) rfl rfl h7.box rfl) rfl ?_
  exact ⟨rfl, h7.below _ _ (by omega) H1.out.bel⟩
end Scr
end Go.Proofs.YtgjpojaegjdjcaaGreatDoor
end
