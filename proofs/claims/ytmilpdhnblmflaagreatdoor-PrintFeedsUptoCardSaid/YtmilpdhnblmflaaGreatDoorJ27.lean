/- Joined texts: ScrBad. -/
import Derived.Test.YtmilpdhnblmflaaGreatDoorJ1
import Derived.Test.YtmilpdhnblmflaaGreatDoorJ2
import Derived.Test.YtmilpdhnblmflaaGreatDoorJ3
import Derived.Test.YtmilpdhnblmflaaGreatDoorJ4
import Derived.Test.YtmilpdhnblmflaaGreatDoorJ5
import Derived.Test.YtmilpdhnblmflaaGreatDoorJ6
import Derived.Test.YtmilpdhnblmflaaGreatDoorJ7
import Derived.Test.YtmilpdhnblmflaaGreatDoorJ8
import Derived.Test.YtmilpdhnblmflaaGreatDoorJ9
import Derived.Test.YtmilpdhnblmflaaGreatDoorJ10
import Derived.Test.YtmilpdhnblmflaaGreatDoorJ11
import Derived.Test.YtmilpdhnblmflaaGreatDoorJ12
import Derived.Test.YtmilpdhnblmflaaGreatDoorJ13
import Derived.Test.YtmilpdhnblmflaaGreatDoorJ14
import Derived.Test.YtmilpdhnblmflaaGreatDoorJ15
section
/- What the developers' screens refuse: no screen, no size. -/
namespace Go.Proofs.YtmilpdhnblmflaaGreatDoor
set_option maxRecDepth 100000
open Go.RowKit
namespace Scr
open Go.Proofs.YtmilpdhnblmflaaGreatDoor.Row

theorem sides_size {r c : Int} (h : sizeB r c = false) : sidesOk r c = false := h
/-- The answer's box, empty. -/
theorem zbox (w : World) : SBox (w.alloc (.cells zarr 38)) w.heap.size noS nilS nilS nilS := heap_alloc_new _ _
set_option maxHeartbeats 3200000 in
theorem new_bad (r c : Int) (w : World) (h : sizeB r c = false) :
    Calls Tryz.prog 9 #[.int .i64 r, .int .i64 c] w fun e w' => e = .returned (.tuple #[sv noS nilS nilS nilS, .int .i64 1]) ∧ Below w.heap.size w w' := by
  have HG := Lib.hid (fun W => new_wide plain r c W (sides_size h))
  have H0 := Lib.hid (Nw.start w)
  clear h
  go_enter Tryz.func9, Tryz.ntmps9
  go_wp2_with (refine wp_allocS (n := w.heap.size) rfl rfl rfl ?_)
  refine (plain_any _).mono ?_; rintro e w1 ⟨rfl, hb⟩
  have H1 := Lib.hid (H0.out.kept hb)
  clear hb H0
  go_wp2_with fail
  refine (HG.out _).mono ?_; rintro e w2 ⟨rfl, hb⟩
  have H2 := Lib.hid (H1.out.kept hb)
  clear hb H1
  have HZ := Lib.hid (fun o => old_alloc H2.out.box o)
  go_wp2_with (refine wp_storeS (b := w.heap.size) (A := zarr) rfl rfl rfl rfl rfl (sarr_one rfl rfl rfl) (HZ.out _) rfl ?_; intro w7 h7)
  refine bodyPost_ret (ret2S (s := noS) (x := nilS) (y := nilS) (z := nilS) rfl rfl h7.box rfl) rfl ?_
  exact ⟨rfl, h7.below _ _ (Nat.le_refl _) (H2.out.bel.trans ((bel_alloc' w2 _).mono H2.out.bel.size))⟩
set_option maxHeartbeats 3200000 in
/-- No screen. -/
theorem resize_no (s : S) (x y z : Value) (r c : Int) (w : World) (h : In w s x y z) (hh : Holds s) (hT : Tabs w) (hok : okB s = false) :
    Calls Tryz.prog 14 #[sv s x y z, .int .i64 r, .int .i64 c] w fun e w' => e = .returned (.tuple #[sv noS nilS nilS nilS, .int .i64 1]) ∧ Below w.heap.size w w' := by
  have H0 := Lib.hid (Rz.start w s x y z)
  have HCK := Lib.hid (check_any s x y z _ (h.kept H0.out.bel) hh (hT.kept H0.out.bel))
  rw [hok] at HCK
  unfold codeB at HCK
  clear h hh hT hok
  go_enter Tryz.func14, Tryz.ntmps14
  go_wp2_with (first
    | (refine wp_allocS1 (w := w) rfl rfl ?_)
    | (refine wp_loadS (b := w.heap.size) (s := s) rfl rfl rfl H0.out.b0 ?_))
  refine HCK.out.mono ?_; rintro e w1 ⟨rfl, hb⟩
  have H1 := Lib.hid (H0.out.kept hb)
  clear hb H0 HCK
  go_wp2_with (refine wp_storeS (b := w.heap.size + 1) (A := zarr) rfl rfl rfl rfl rfl (sarr_one rfl rfl rfl) H1.out.b1 rfl ?_; intro w7 h7)
  refine bodyPost_ret (ret2S (s := noS) (x := nilS) (y := nilS) (z := nilS) rfl rfl h7.box rfl) rfl ?_
  exact ⟨rfl, h7.below _ _ (by omega) H1.out.bel⟩
end Scr
end Go.Proofs.YtmilpdhnblmflaaGreatDoor
end
