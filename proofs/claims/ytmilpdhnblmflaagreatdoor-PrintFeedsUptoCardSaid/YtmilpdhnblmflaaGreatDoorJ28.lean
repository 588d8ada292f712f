/- Joined texts: ScrBad2. -/
import Derived.Test.YtmilpdhnblmflaaGreatDoorJ1
import Derived.Test.YtmilpdhnblmflaaGreatDoorJ2
import Derived.Test.YtmilpdhnblmflaaGreatDoorJ3
import Derived.Test.YtmilpdhnblmflaaGreatDoorJ4
import Derived.Test.YtmilpdhnblmflaaGreatDoorJ5
import Derived.Test.YtmilpdhnblmflaaGreatDoorJ6
import Derived.Test.YtmilpdhnblmflaaGreatDoorJ7
import Derived.Test.YtmilpdhnblmflaaGreatDoorJ8
import Derived.Test.YtmilpdhnblmflaaGreatDoorJ9
import Derived.Test.YtmilpdhnblmflaaGreatDoorJ10
import Derived.Test.YtmilpdhnblmflaaGreatDoorJ11
import Derived.Test.YtmilpdhnblmflaaGreatDoorJ12
import Derived.Test.YtmilpdhnblmflaaGreatDoorJ13
import Derived.Test.YtmilpdhnblmflaaGreatDoorJ14
import Derived.Test.YtmilpdhnblmflaaGreatDoorJ15
import Derived.Test.YtmilpdhnblmflaaGreatDoorJ16
import Derived.Test.YtmilpdhnblmflaaGreatDoorJ17
import Derived.Test.YtmilpdhnblmflaaGreatDoorJ27
section
/- What the developers' screens refuse besides: no size that may be; no screen to be seen. -/
namespace Go.Proofs.YtmilpdhnblmflaaGreatDoor
set_option maxRecDepth 100000
open Go.RowKit
namespace Scr
open Go.Proofs.YtmilpdhnblmflaaGreatDoor.Row

/-- The grid refused, its box and the error's number. -/
def LaidNo (w0 : World) (s : S) (x y z : Value) (s9 s10 : Value) (wx : World) : Prop := ∃ b, s9 = .pointer (some ⟨b, 0, none⟩) ∧ s10 = .int .i64 1 ∧ Hid (Rz w0 s x y z wx)
theorem laidNo_put {w0 w3 : World} {s : S} {x y z : Value} {b : Nat} (hr : Rz w0 s x y z w3) (hb0 : w0.heap.size + 2 ≤ b) : LaidNo w0 s x y z (.pointer (some ⟨b, 0, none⟩)) (.int .i64 1) (gput w3 b 0 0 (.slice none 0 0)) :=
  ⟨b, rfl, rfl, Lib.hid ⟨gput_below hr.bel (by omega) _ _ _, gput_other hr.b0 (by omega) _ _ _, gput_other hr.b1 (by omega) _ _ _⟩⟩
theorem laidNo_new {w0 w3 : World} {s : S} {x y z : Value} (hr : Rz w0 s x y z w3) : LaidNo w0 s x y z (.pointer (some ⟨w3.heap.size, 0, none⟩)) (.int .i64 1) (w3.alloc gnil) := ⟨_, rfl, rfl, Lib.hid (hr.kept (bel_alloc w3 _))⟩
set_option maxHeartbeats 6400000 in
theorem resize_wide8 (s : S) (x y z : Value) (r c : Int) (w : World) (h : In w s x y z) (hh : Holds s) (hT : Tabs w) (hok : okB s = true) (hsz : sizeB r c = false) :
    Calls Tryz.prog 14 #[sv s x y z, .int .i64 r, .int .i64 c] w fun e w' => e = .returned (.tuple #[sv noS nilS nilS nilS, .int .i64 1]) ∧ Below w.heap.size w w' := by
  have HI := Lib.hid h
  have H0 := Lib.hid (Rz.start w s x y z)
  have HCK := Lib.hid (check_any s x y z _ (h.kept H0.out.bel) hh (hT.kept H0.out.bel))
  rw [hok] at HCK
  unfold codeB at HCK
  have hok2 := hok
  unfold okB at hok2
  simp only [Bool.and_eq_true] at hok2
  have HGK : Hid (GridOk s.main) := Lib.hid ((gridB_iff _).1 hok2.1)
  have HFM := Lib.hid (fun W (k : Rm W x s.main.cells) => resize_wide s.main.rows s.main.cols s.main.cells plain r c x W k hh.m HGK.out (sides_size hsz))
  clear h hh hT hok hok2 hsz
  go_enter Tryz.func14, Tryz.ntmps14
  go_wp2_with (first
    | (refine wp_allocS1 (w := w) rfl rfl ?_)
    | (refine wp_loadS (b := w.heap.size) (s := s) rfl rfl rfl H0.out.b0 ?_))
  refine HCK.out.mono ?_; rintro e w1 ⟨rfl, hb⟩
  have H1 := Lib.hid (H0.out.kept hb)
  clear hb H0 HCK
  go_upto_region 4 with (fail)
  go_cut [9, 10] from 19 to 27 (fun s9 s10 wx => LaidNo w s x y z s9 s10 wx)
  case first =>
    have HP := Lib.hid (plain_any w1.drew)
    have HPA := Lib.hid (plain_any (w1.drew.alloc gnil))
    have c0 : ∀ j, w1.cell? ⟨w.heap.size, j, none⟩ = (sarr s x y z)[j]? := H1.out.b0.cell
    have l0 : w.heap.size < w1.heap.size := by have := H1.out.up; omega
    go_region_law (first
      | (have hz := HZ2.out; have h := H2.out; go_simp; go_at_call 45; refine (HFM.out w2 (HI.out.kept h.bel).m).mono ?_; rintro e w3 ⟨rfl, hb⟩; have HE := Lib.hid (laidNo_put (b := w1.heap.size) (h.kept hb) H1.out.up); obtain ⟨y0, z0, z1, z2⟩ := gnil_cells (Blk.kept hz hb); clear hb)
      | (have h := H2.out; go_simp; go_at_call 45; refine (HFM.out (w2.alloc gnil) (HI.out.kept (h.kept (bel_alloc w2 gnil)).bel).m).mono ?_; rintro e w3 ⟨rfl, hb⟩; have HE := Lib.hid (laidNo_put (b := w2.heap.size) ((h.kept (bel_alloc w2 gnil)).kept hb) h.up); obtain ⟨y0, z0, z1, z2⟩ := gnil_cells (Blk.kept (heap_alloc_new w2 gnil) hb); clear hb)
      | (have h := H2.out; go_simp; go_at_call 45; refine (HFM.out w2 (HI.out.kept h.bel).m).mono ?_; rintro e w3 ⟨rfl, hb⟩; have HE := Lib.hid (laidNo_new (h.kept hb)); clear hb)
      | (go_simp; go_at_call 35; refine HPA.out.mono ?_; rintro e w2 ⟨rfl, hb⟩; have H2 := Lib.hid (H1.out.kept ((dalloc w1 gnil).trans (hb.mono (by simp)))); have HZ2 : Hid (w2.heap[w1.heap.size]? = some gnil) := Lib.hid (Blk.kept (heap_alloc_new w1.drew gnil) hb); have c2 : ∀ j, w2.cell? ⟨w.heap.size, j, none⟩ = (sarr s x y z)[j]? := H2.out.b0.cell; clear hb)
      | (go_simp; go_at_call 35; refine HP.out.mono ?_; rintro e w2 ⟨rfl, hb⟩; have H2 := Lib.hid (H1.out.kept ((Below.refl _ _).drew.trans hb)); have c2 : ∀ j, w2.cell? ⟨w.heap.size, j, none⟩ = (sarr s x y z)[j]? := H2.out.b0.cell; have l2 : w.heap.size < w2.heap.size := (by have := H2.out.up; omega); clear hb))
    all_goals
      go_wp2_with fail
      go_meet
      exact HE.out
  case rest =>
    obtain ⟨b, rfl, rfl, H2⟩ := hcut
    rename World => w2
    go_wp2_with (refine wp_storeS (b := w.heap.size + 1) (A := zarr) rfl rfl rfl rfl rfl (sarr_one rfl rfl rfl) H2.out.b1 rfl ?_; intro w7 h7)
    refine bodyPost_ret (ret2S (s := noS) (x := nilS) (y := nilS) (z := nilS) rfl rfl h7.box rfl) rfl ?_
    exact ⟨rfl, h7.below _ _ (by omega) H2.out.bel⟩
set_option maxHeartbeats 3200000 in
theorem view_no (s : S) (x y z : Value) (w : World) (h : In w s x y z) (hh : Holds s) (hT : Tabs w) (hok : okB s = false) :
    Calls Tryz.prog 17 #[sv s x y z] w fun e w' => e = .returned (.tuple #[viewV noG nilV 0 0 0 [], .int .i64 1]) ∧ Below w.heap.size w w' := by
  have H0 : Hid (Vw w s x y z ((w.alloc (.cells (sarr s x y z) 38)).alloc (vbox noG nilV 0 0 0 []))) := Lib.hid ⟨(bel_alloc w _).alloc (by simp) _, heap_alloc2_old _ _ _, heap_alloc2_new _ _ _⟩
  have HCK := Lib.hid (check_any s x y z _ (h.kept H0.out.bel) hh (hT.kept H0.out.bel))
  rw [hok] at HCK
  unfold codeB at HCK
  clear h hh hT hok
  go_enter Tryz.func17, Tryz.ntmps17
  go_wp2_with (refine wp_loadS (b := w.heap.size) (s := s) rfl rfl rfl H0.out.b0 ?_)
  refine HCK.out.mono ?_; rintro e w1 ⟨rfl, hb⟩
  have H1 := Lib.hid (H0.out.kept hb)
  clear hb H0 HCK
  obtain ⟨v0, v1, v2, v3, v4, v5, v6⟩ := vbox_cells H1.out.b1
  have vf : ∀ j, w1.frozen? ⟨w.heap.size + 1, j, none⟩ = false := Blk.free H1.out.b1
  have HF := Lib.hid (vput_box H1.out.b1 noG nilV 0 0 0 [])
  have HB := Lib.hid (vput_below H1.out.bel (show w.heap.size ≤ w.heap.size + 1 by omega) noG.rows noG.cols nilV 0 0 0 [])
  go_wp2_with fail
  show bodyPost _ _ _ _ _ (vput w1 (w.heap.size + 1) noG.rows noG.cols nilV 0 0 0 [])
  clear v0 v1 v2 v3 v4 v5 v6 vf
  generalize vput w1 (w.heap.size + 1) noG.rows noG.cols nilV 0 0 0 [] = wF at HF HB ⊢
  obtain ⟨v0, v1, v2, v3, v4, v5, v6⟩ := vbox_cells HF.out
  exact bodyPost_ret (v := .tuple #[viewV noG nilV 0 0 0 [], .int .i64 1]) (by simp [results, Tryz.results17, go_sem, v0, v1, v2, v3, v4, v5, v6]) rfl ⟨rfl, HB.out⟩
end Scr
end Go.Proofs.YtmilpdhnblmflaaGreatDoor
end
