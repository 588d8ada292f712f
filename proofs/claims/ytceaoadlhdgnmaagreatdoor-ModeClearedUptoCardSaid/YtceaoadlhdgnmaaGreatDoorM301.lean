/- Joined texts: MdTurn, MdChanged. -/
import Derived.Test.YtceaoadlhdgnmaaGreatDoorM305
namespace Go.Proofs.YtceaoadlhdgnmaaGreatDoor
set_option maxRecDepth 100000
section
open Go.RowKit
namespace Scr
open Go.Proofs.YtceaoadlhdgnmaaGreatDoor.Row Wid
abbrev swbx (k bl : Bool) : Obj := .cells #[.bool k, .bool bl] 114 (0, 0)
set_option maxHeartbeats 3200000 in
theorem turnM_ffff (w0 : World) (s : S) (x y z : Value) (w : World) (h : Pb w0 s x y z w) (hok : Ok s) (hT : Tabs w0) (hs : s.swapped = false) :
    Calls Tryz.prog 106 #[.pointer (some ⟨w0.heap.size, 0, none⟩), .agg #[.bool false, .bool false], .bool false] w fun e w' => e = .returned (.tuple #[]) ∧ ∃ x' y' z', Pb w0 (turnS s false false false) x' y' z' w' := by
  have HE : Hid (turnS s false false false = swapS (s) false) := Lib.hid (by
    have e : turnS s false false false = swapS (s) false := by
      unfold turnS turnB turnA
      rw [hs]
      rfl
    rw [e])
  rw [HE.out]
  have HT := Lib.hid hT
  have HOK := Lib.hid hok
  have H1 : Hid (Kb w0 w.heap.size (swbx false false) s x y z (w.alloc (swbx false false))) := Lib.hid ⟨h.kept (bel_alloc w _), heap_alloc_new _ _, by have := h.pn.up; omega⟩
  have c6 : (w.alloc (swbx false false)).cell? ⟨w0.heap.size, 6, none⟩ = some (.bool false) := by have k := H1.out.pb.pn.box.cell 6; rw [sarr_6, hs] at k; exact k
  clear h hok hT hs HE
  go_enter Tryz.func106, Tryz.ntmps106
  go_upto_region 2 with (fail)
  change Code.wp _ _ _ _ (w.alloc (swbx false false))
  clear c6
  generalize w.alloc (swbx false false) = w1 at H1 ⊢
  generalize w.heap.size = c at H1 ⊢
  have e0 : w1.cell? ⟨c, 0, none⟩ = some (.bool false) := Blk.cell H1.out.kb 0
  go_upto_region 4 with (fail)
  clear e0
  have c6 : w1.cell? ⟨w0.heap.size, 6, none⟩ = some (.bool (s).swapped) := H1.out.pb.pn.box.cell 6
  have f6 : w1.frozen? ⟨w0.heap.size, 6, none⟩ = false := H1.out.pb.pn.box.free 6
  go_upto_region 5 with (fail)
  change Code.wp _ _ _ _ (w1.setCell ⟨w0.heap.size, 6, none⟩ (.bool false))
  have H2 := Lib.hid (H1.out.only (H1.out.pb.swap false) ((Only.refl w0.heap.size w1).set _ _))
  clear c6 f6 H1
  generalize w1.setCell ⟨w0.heap.size, 6, none⟩ (.bool false) = w2 at H2 ⊢
  have e0 : w2.cell? ⟨c, 0, none⟩ = some (.bool false) := Blk.cell H2.out.kb 0
  have e1 : w2.cell? ⟨c, 1, none⟩ = some (.bool false) := Blk.cell H2.out.kb 1
  go_wp2_with fail
  go_end0
  exact ⟨rfl, _, _, _, H2.out.pb⟩
set_option maxHeartbeats 3200000 in
theorem turnM_ffft (w0 : World) (s : S) (x y z : Value) (w : World) (h : Pb w0 s x y z w) (hok : Ok s) (hT : Tabs w0) (hs : s.swapped = true) :
    Calls Tryz.prog 106 #[.pointer (some ⟨w0.heap.size, 0, none⟩), .agg #[.bool false, .bool false], .bool false] w fun e w' => e = .returned (.tuple #[]) ∧ ∃ x' y' z', Pb w0 (turnS s false false false) x' y' z' w' := by
  have HE : Hid (turnS s false false false = swapS (s) false) := Lib.hid (by
    have e : turnS s false false false = swapS (s) false := by
      unfold turnS turnB turnA
      rw [hs]
      rfl
    rw [e])
  rw [HE.out]
  have HT := Lib.hid hT
  have HOK := Lib.hid hok
  have H1 : Hid (Kb w0 w.heap.size (swbx false false) s x y z (w.alloc (swbx false false))) := Lib.hid ⟨h.kept (bel_alloc w _), heap_alloc_new _ _, by have := h.pn.up; omega⟩
  have c6 : (w.alloc (swbx false false)).cell? ⟨w0.heap.size, 6, none⟩ = some (.bool true) := by have k := H1.out.pb.pn.box.cell 6; rw [sarr_6, hs] at k; exact k
  clear h hok hT hs HE
  go_enter Tryz.func106, Tryz.ntmps106
  go_upto_region 2 with (fail)
  change Code.wp _ _ _ _ (w.alloc (swbx false false))
  clear c6
  generalize w.alloc (swbx false false) = w1 at H1 ⊢
  generalize w.heap.size = c at H1 ⊢
  have e0 : w1.cell? ⟨c, 0, none⟩ = some (.bool false) := Blk.cell H1.out.kb 0
  go_upto_region 4 with (fail)
  clear e0
  have c6 : w1.cell? ⟨w0.heap.size, 6, none⟩ = some (.bool (s).swapped) := H1.out.pb.pn.box.cell 6
  have f6 : w1.frozen? ⟨w0.heap.size, 6, none⟩ = false := H1.out.pb.pn.box.free 6
  go_upto_region 5 with (fail)
  change Code.wp _ _ _ _ (w1.setCell ⟨w0.heap.size, 6, none⟩ (.bool false))
  have H2 := Lib.hid (H1.out.only (H1.out.pb.swap false) ((Only.refl w0.heap.size w1).set _ _))
  clear c6 f6 H1
  generalize w1.setCell ⟨w0.heap.size, 6, none⟩ (.bool false) = w2 at H2 ⊢
  have e0 : w2.cell? ⟨c, 0, none⟩ = some (.bool false) := Blk.cell H2.out.kb 0
  have e1 : w2.cell? ⟨c, 1, none⟩ = some (.bool false) := Blk.cell H2.out.kb 1
  go_wp2_with fail
  go_end0
  exact ⟨rfl, _, _, _, H2.out.pb⟩
set_option maxHeartbeats 3200000 in
theorem turnM_fftf (w0 : World) (s : S) (x y z : Value) (w : World) (h : Pb w0 s x y z w) (hok : Ok s) (hT : Tabs w0) (hs : s.swapped = false) :
    Calls Tryz.prog 106 #[.pointer (some ⟨w0.heap.size, 0, none⟩), .agg #[.bool false, .bool false], .bool true] w fun e w' => e = .returned (.tuple #[]) ∧ ∃ x' y' z', Pb w0 (turnS s false false true) x' y' z' w' := by
  have HE : Hid (turnS s false false true = swapS (s) true) := Lib.hid (by
    have e : turnS s false false true = swapS (s) true := by
      unfold turnS turnB turnA
      rw [hs]
      rfl
    rw [e])
  rw [HE.out]
  have HT := Lib.hid hT
  have HOK := Lib.hid hok
  have H1 : Hid (Kb w0 w.heap.size (swbx false false) s x y z (w.alloc (swbx false false))) := Lib.hid ⟨h.kept (bel_alloc w _), heap_alloc_new _ _, by have := h.pn.up; omega⟩
  have c6 : (w.alloc (swbx false false)).cell? ⟨w0.heap.size, 6, none⟩ = some (.bool false) := by have k := H1.out.pb.pn.box.cell 6; rw [sarr_6, hs] at k; exact k
  clear h hok hT hs HE
  go_enter Tryz.func106, Tryz.ntmps106
  go_upto_region 2 with (fail)
  change Code.wp _ _ _ _ (w.alloc (swbx false false))
  clear c6
  generalize w.alloc (swbx false false) = w1 at H1 ⊢
  generalize w.heap.size = c at H1 ⊢
  have e0 : w1.cell? ⟨c, 0, none⟩ = some (.bool false) := Blk.cell H1.out.kb 0
  go_upto_region 4 with (fail)
  clear e0
  have c6 : w1.cell? ⟨w0.heap.size, 6, none⟩ = some (.bool (s).swapped) := H1.out.pb.pn.box.cell 6
  have f6 : w1.frozen? ⟨w0.heap.size, 6, none⟩ = false := H1.out.pb.pn.box.free 6
  go_upto_region 5 with (fail)
  change Code.wp _ _ _ _ (w1.setCell ⟨w0.heap.size, 6, none⟩ (.bool true))
  have H2 := Lib.hid (H1.out.only (H1.out.pb.swap true) ((Only.refl w0.heap.size w1).set _ _))
  clear c6 f6 H1
  generalize w1.setCell ⟨w0.heap.size, 6, none⟩ (.bool true) = w2 at H2 ⊢
  have e0 : w2.cell? ⟨c, 0, none⟩ = some (.bool false) := Blk.cell H2.out.kb 0
  have e1 : w2.cell? ⟨c, 1, none⟩ = some (.bool false) := Blk.cell H2.out.kb 1
  go_wp2_with fail
  go_end0
  exact ⟨rfl, _, _, _, H2.out.pb⟩
set_option maxHeartbeats 3200000 in
theorem turnM_fftt (w0 : World) (s : S) (x y z : Value) (w : World) (h : Pb w0 s x y z w) (hok : Ok s) (hT : Tabs w0) (hs : s.swapped = true) :
    Calls Tryz.prog 106 #[.pointer (some ⟨w0.heap.size, 0, none⟩), .agg #[.bool false, .bool false], .bool true] w fun e w' => e = .returned (.tuple #[]) ∧ ∃ x' y' z', Pb w0 (turnS s false false true) x' y' z' w' := by
  have HE : Hid (turnS s false false true = swapS (s) true) := Lib.hid (by
    have e : turnS s false false true = swapS (s) true := by
      unfold turnS turnB turnA
      rw [hs]
      rfl
    rw [e])
  rw [HE.out]
  have HT := Lib.hid hT
  have HOK := Lib.hid hok
  have H1 : Hid (Kb w0 w.heap.size (swbx false false) s x y z (w.alloc (swbx false false))) := Lib.hid ⟨h.kept (bel_alloc w _), heap_alloc_new _ _, by have := h.pn.up; omega⟩
  have c6 : (w.alloc (swbx false false)).cell? ⟨w0.heap.size, 6, none⟩ = some (.bool true) := by have k := H1.out.pb.pn.box.cell 6; rw [sarr_6, hs] at k; exact k
  clear h hok hT hs HE
  go_enter Tryz.func106, Tryz.ntmps106
  go_upto_region 2 with (fail)
  change Code.wp _ _ _ _ (w.alloc (swbx false false))
  clear c6
  generalize w.alloc (swbx false false) = w1 at H1 ⊢
  generalize w.heap.size = c at H1 ⊢
  have e0 : w1.cell? ⟨c, 0, none⟩ = some (.bool false) := Blk.cell H1.out.kb 0
  go_upto_region 4 with (fail)
  clear e0
  have c6 : w1.cell? ⟨w0.heap.size, 6, none⟩ = some (.bool (s).swapped) := H1.out.pb.pn.box.cell 6
  have f6 : w1.frozen? ⟨w0.heap.size, 6, none⟩ = false := H1.out.pb.pn.box.free 6
  go_upto_region 5 with (fail)
  change Code.wp _ _ _ _ (w1.setCell ⟨w0.heap.size, 6, none⟩ (.bool true))
  have H2 := Lib.hid (H1.out.only (H1.out.pb.swap true) ((Only.refl w0.heap.size w1).set _ _))
  clear c6 f6 H1
  generalize w1.setCell ⟨w0.heap.size, 6, none⟩ (.bool true) = w2 at H2 ⊢
  have e0 : w2.cell? ⟨c, 0, none⟩ = some (.bool false) := Blk.cell H2.out.kb 0
  have e1 : w2.cell? ⟨c, 1, none⟩ = some (.bool false) := Blk.cell H2.out.kb 1
  go_wp2_with fail
  go_end0
  exact ⟨rfl, _, _, _, H2.out.pb⟩
set_option maxHeartbeats 3200000 in
theorem turnM_ftff (w0 : World) (s : S) (x y z : Value) (w : World) (h : Pb w0 s x y z w) (hok : Ok s) (hT : Tabs w0) (hs : s.swapped = false) :
    Calls Tryz.prog 106 #[.pointer (some ⟨w0.heap.size, 0, none⟩), .agg #[.bool false, .bool true], .bool false] w fun e w' => e = .returned (.tuple #[]) ∧ ∃ x' y' z', Pb w0 (turnS s false true false) x' y' z' w' := by
  have HE : Hid (turnS s false true false = swapS (s) false) := Lib.hid (by
    have e : turnS s false true false = swapS (s) false := by
      unfold turnS turnB turnA
      rw [hs]
      rfl
    rw [e])
  rw [HE.out]
  have HT := Lib.hid hT
  have HOK := Lib.hid hok
  have H1 : Hid (Kb w0 w.heap.size (swbx false true) s x y z (w.alloc (swbx false true))) := Lib.hid ⟨h.kept (bel_alloc w _), heap_alloc_new _ _, by have := h.pn.up; omega⟩
  have c6 : (w.alloc (swbx false true)).cell? ⟨w0.heap.size, 6, none⟩ = some (.bool false) := by have k := H1.out.pb.pn.box.cell 6; rw [sarr_6, hs] at k; exact k
  clear h hok hT hs HE
  go_enter Tryz.func106, Tryz.ntmps106
  go_upto_region 2 with (fail)
  change Code.wp _ _ _ _ (w.alloc (swbx false true))
  clear c6
  generalize w.alloc (swbx false true) = w1 at H1 ⊢
  generalize w.heap.size = c at H1 ⊢
  have e0 : w1.cell? ⟨c, 0, none⟩ = some (.bool false) := Blk.cell H1.out.kb 0
  go_upto_region 4 with (fail)
  clear e0
  have c6 : w1.cell? ⟨w0.heap.size, 6, none⟩ = some (.bool (s).swapped) := H1.out.pb.pn.box.cell 6
  have f6 : w1.frozen? ⟨w0.heap.size, 6, none⟩ = false := H1.out.pb.pn.box.free 6
  go_upto_region 5 with (fail)
  change Code.wp _ _ _ _ (w1.setCell ⟨w0.heap.size, 6, none⟩ (.bool false))
  have H2 := Lib.hid (H1.out.only (H1.out.pb.swap false) ((Only.refl w0.heap.size w1).set _ _))
  clear c6 f6 H1
  generalize w1.setCell ⟨w0.heap.size, 6, none⟩ (.bool false) = w2 at H2 ⊢
  have e0 : w2.cell? ⟨c, 0, none⟩ = some (.bool false) := Blk.cell H2.out.kb 0
  have e1 : w2.cell? ⟨c, 1, none⟩ = some (.bool true) := Blk.cell H2.out.kb 1
  go_wp2_with fail
  go_end0
  exact ⟨rfl, _, _, _, H2.out.pb⟩
set_option maxHeartbeats 3200000 in
theorem turnM_ftft (w0 : World) (s : S) (x y z : Value) (w : World) (h : Pb w0 s x y z w) (hok : Ok s) (hT : Tabs w0) (hs : s.swapped = true) :
    Calls Tryz.prog 106 #[.pointer (some ⟨w0.heap.size, 0, none⟩), .agg #[.bool false, .bool true], .bool false] w fun e w' => e = .returned (.tuple #[]) ∧ ∃ x' y' z', Pb w0 (turnS s false true false) x' y' z' w' := by
  have HE : Hid (turnS s false true false = swapS (s) false) := Lib.hid (by
    have e : turnS s false true false = swapS (s) false := by
      unfold turnS turnB turnA
      rw [hs]
      rfl
    rw [e])
  rw [HE.out]
  have HT := Lib.hid hT
  have HOK := Lib.hid hok
  have H1 : Hid (Kb w0 w.heap.size (swbx false true) s x y z (w.alloc (swbx false true))) := Lib.hid ⟨h.kept (bel_alloc w _), heap_alloc_new _ _, by have := h.pn.up; omega⟩
  have c6 : (w.alloc (swbx false true)).cell? ⟨w0.heap.size, 6, none⟩ = some (.bool true) := by have k := H1.out.pb.pn.box.cell 6; rw [sarr_6, hs] at k; exact k
  clear h hok hT hs HE
  go_enter Tryz.func106, Tryz.ntmps106
  go_upto_region 2 with (fail)
  change Code.wp _ _ _ _ (w.alloc (swbx false true))
  clear c6
  generalize w.alloc (swbx false true) = w1 at H1 ⊢
  generalize w.heap.size = c at H1 ⊢
  have e0 : w1.cell? ⟨c, 0, none⟩ = some (.bool false) := Blk.cell H1.out.kb 0
  go_upto_region 4 with (fail)
  clear e0
  have c6 : w1.cell? ⟨w0.heap.size, 6, none⟩ = some (.bool (s).swapped) := H1.out.pb.pn.box.cell 6
  have f6 : w1.frozen? ⟨w0.heap.size, 6, none⟩ = false := H1.out.pb.pn.box.free 6
  go_upto_region 5 with (fail)
  change Code.wp _ _ _ _ (w1.setCell ⟨w0.heap.size, 6, none⟩ (.bool false))
  have H2 := Lib.hid (H1.out.only (H1.out.pb.swap false) ((Only.refl w0.heap.size w1).set _ _))
  clear c6 f6 H1
  generalize w1.setCell ⟨w0.heap.size, 6, none⟩ (.bool false) = w2 at H2 ⊢
  have e0 : w2.cell? ⟨c, 0, none⟩ = some (.bool false) := Blk.cell H2.out.kb 0
  have e1 : w2.cell? ⟨c, 1, none⟩ = some (.bool true) := Blk.cell H2.out.kb 1
  go_wp2_with fail
  go_end0
  exact ⟨rfl, _, _, _, H2.out.pb⟩
set_option maxHeartbeats 3200000 in
theorem turnM_fttf (w0 : World) (s : S) (x y z : Value) (w : World) (h : Pb w0 s x y z w) (hok : Ok s) (hT : Tabs w0) (hs : s.swapped = false) :
    Calls Tryz.prog 106 #[.pointer (some ⟨w0.heap.size, 0, none⟩), .agg #[.bool false, .bool true], .bool true] w fun e w' => e = .returned (.tuple #[]) ∧ ∃ x' y' z', Pb w0 (turnS s false true true) x' y' z' w' := by
  have HBK : Hid (withC (editS (plainC (swapS (s) true)) 74 2) (swapS (s) true).cur = blankS (swapS (s) true)) := Lib.hid (blank_is (swapS_ok (hok) _) rfl)
  have HE : Hid (turnS s false true true = withC (editS (plainC (swapS (s) true)) 74 2) (swapS (s) true).cur) := Lib.hid (by
    have e : turnS s false true true = blankS (swapS (s) true) := by
      unfold turnS turnB turnA
      rw [hs]
      rfl
    rw [e, HBK.out])
  rw [HE.out]
  have HT := Lib.hid hT
  have HOK := Lib.hid hok
  have H1 : Hid (Kb w0 w.heap.size (swbx false true) s x y z (w.alloc (swbx false true))) := Lib.hid ⟨h.kept (bel_alloc w _), heap_alloc_new _ _, by have := h.pn.up; omega⟩
  have c6 : (w.alloc (swbx false true)).cell? ⟨w0.heap.size, 6, none⟩ = some (.bool false) := by have k := H1.out.pb.pn.box.cell 6; rw [sarr_6, hs] at k; exact k
  clear h hok hT hs HBK HE
  go_enter Tryz.func106, Tryz.ntmps106
  go_upto_region 2 with (fail)
  change Code.wp _ _ _ _ (w.alloc (swbx false true))
  clear c6
  generalize w.alloc (swbx false true) = w1 at H1 ⊢
  generalize w.heap.size = c at H1 ⊢
  have e0 : w1.cell? ⟨c, 0, none⟩ = some (.bool false) := Blk.cell H1.out.kb 0
  go_upto_region 4 with (fail)
  clear e0
  have c6 : w1.cell? ⟨w0.heap.size, 6, none⟩ = some (.bool (s).swapped) := H1.out.pb.pn.box.cell 6
  have f6 : w1.frozen? ⟨w0.heap.size, 6, none⟩ = false := H1.out.pb.pn.box.free 6
  go_upto_region 5 with (fail)
  change Code.wp _ _ _ _ (w1.setCell ⟨w0.heap.size, 6, none⟩ (.bool true))
  have H2 := Lib.hid (H1.out.only (H1.out.pb.swap true) ((Only.refl w0.heap.size w1).set _ _))
  clear c6 f6 H1
  generalize w1.setCell ⟨w0.heap.size, 6, none⟩ (.bool true) = w2 at H2 ⊢
  have e0 : w2.cell? ⟨c, 0, none⟩ = some (.bool false) := Blk.cell H2.out.kb 0
  have e1 : w2.cell? ⟨c, 1, none⟩ = some (.bool true) := Blk.cell H2.out.kb 1
  go_wp2_with fail
  refine (blankM_any w0 (swapS (s) true) x y z w2 H2.out.pb (swapS_ok (HOK.out) true) HT.out).mono ?_; rintro e w3 ⟨rfl, x3, y3, z3, hp, hon⟩
  have H3 := Lib.hid (H2.out.only hp hon)
  clear hp hon H2 e0 e1
  have e0 : w3.cell? ⟨c, 0, none⟩ = some (.bool false) := Blk.cell H3.out.kb 0
  go_wp2_with fail
  go_end0
  exact ⟨rfl, _, _, _, H3.out.pb⟩
set_option maxHeartbeats 3200000 in
theorem turnM_fttt (w0 : World) (s : S) (x y z : Value) (w : World) (h : Pb w0 s x y z w) (hok : Ok s) (hT : Tabs w0) (hs : s.swapped = true) :
    Calls Tryz.prog 106 #[.pointer (some ⟨w0.heap.size, 0, none⟩), .agg #[.bool false, .bool true], .bool true] w fun e w' => e = .returned (.tuple #[]) ∧ ∃ x' y' z', Pb w0 (turnS s false true true) x' y' z' w' := by
  have HE : Hid (turnS s false true true = swapS (s) true) := Lib.hid (by
    have e : turnS s false true true = swapS (s) true := by
      unfold turnS turnB turnA
      rw [hs]
      rfl
    rw [e])
  rw [HE.out]
  have HT := Lib.hid hT
  have HOK := Lib.hid hok
  have H1 : Hid (Kb w0 w.heap.size (swbx false true) s x y z (w.alloc (swbx false true))) := Lib.hid ⟨h.kept (bel_alloc w _), heap_alloc_new _ _, by have := h.pn.up; omega⟩
  have c6 : (w.alloc (swbx false true)).cell? ⟨w0.heap.size, 6, none⟩ = some (.bool true) := by have k := H1.out.pb.pn.box.cell 6; rw [sarr_6, hs] at k; exact k
  clear h hok hT hs HE
  go_enter Tryz.func106, Tryz.ntmps106
  go_upto_region 2 with (fail)
  change Code.wp _ _ _ _ (w.alloc (swbx false true))
  clear c6
  generalize w.alloc (swbx false true) = w1 at H1 ⊢
  generalize w.heap.size = c at H1 ⊢
  have e0 : w1.cell? ⟨c, 0, none⟩ = some (.bool false) := Blk.cell H1.out.kb 0
  go_upto_region 4 with (fail)
  clear e0
  have c6 : w1.cell? ⟨w0.heap.size, 6, none⟩ = some (.bool (s).swapped) := H1.out.pb.pn.box.cell 6
  have f6 : w1.frozen? ⟨w0.heap.size, 6, none⟩ = false := H1.out.pb.pn.box.free 6
  go_upto_region 5 with (fail)
  change Code.wp _ _ _ _ (w1.setCell ⟨w0.heap.size, 6, none⟩ (.bool true))
  have H2 := Lib.hid (H1.out.only (H1.out.pb.swap true) ((Only.refl w0.heap.size w1).set _ _))
  clear c6 f6 H1
  generalize w1.setCell ⟨w0.heap.size, 6, none⟩ (.bool true) = w2 at H2 ⊢
  have e0 : w2.cell? ⟨c, 0, none⟩ = some (.bool false) := Blk.cell H2.out.kb 0
  have e1 : w2.cell? ⟨c, 1, none⟩ = some (.bool true) := Blk.cell H2.out.kb 1
  go_wp2_with fail
  go_end0
  exact ⟨rfl, _, _, _, H2.out.pb⟩
set_option maxHeartbeats 3200000 in
theorem turnM_ttff (w0 : World) (s : S) (x y z : Value) (w : World) (h : Pb w0 s x y z w) (hok : Ok s) (hT : Tabs w0) (hs : s.swapped = false) :
    Calls Tryz.prog 106 #[.pointer (some ⟨w0.heap.size, 0, none⟩), .agg #[.bool true, .bool true], .bool false] w fun e w' => e = .returned (.tuple #[]) ∧ ∃ x' y' z', Pb w0 (turnS s true true false) x' y' z' w' := by
  have HE : Hid (turnS s true true false = swapS (s) false) := Lib.hid (by
    have e : turnS s true true false = swapS (s) false := by
      unfold turnS turnB turnA
      rw [hs]
      rfl
    rw [e])
  rw [HE.out]
  have HT := Lib.hid hT
  have HOK := Lib.hid hok
  have H1 : Hid (Kb w0 w.heap.size (swbx true true) s x y z (w.alloc (swbx true true))) := Lib.hid ⟨h.kept (bel_alloc w _), heap_alloc_new _ _, by have := h.pn.up; omega⟩
  have c6 : (w.alloc (swbx true true)).cell? ⟨w0.heap.size, 6, none⟩ = some (.bool false) := by have k := H1.out.pb.pn.box.cell 6; rw [sarr_6, hs] at k; exact k
  clear h hok hT hs HE
  go_enter Tryz.func106, Tryz.ntmps106
  go_upto_region 2 with (fail)
  change Code.wp _ _ _ _ (w.alloc (swbx true true))
  clear c6
  generalize w.alloc (swbx true true) = w1 at H1 ⊢
  generalize w.heap.size = c at H1 ⊢
  have e0 : w1.cell? ⟨c, 0, none⟩ = some (.bool true) := Blk.cell H1.out.kb 0
  go_upto_region 4 with (fail)
  clear e0
  have c6 : w1.cell? ⟨w0.heap.size, 6, none⟩ = some (.bool (s).swapped) := H1.out.pb.pn.box.cell 6
  have f6 : w1.frozen? ⟨w0.heap.size, 6, none⟩ = false := H1.out.pb.pn.box.free 6
  go_upto_region 5 with (fail)
  change Code.wp _ _ _ _ (w1.setCell ⟨w0.heap.size, 6, none⟩ (.bool false))
  have H2 := Lib.hid (H1.out.only (H1.out.pb.swap false) ((Only.refl w0.heap.size w1).set _ _))
  clear c6 f6 H1
  generalize w1.setCell ⟨w0.heap.size, 6, none⟩ (.bool false) = w2 at H2 ⊢
  have e0 : w2.cell? ⟨c, 0, none⟩ = some (.bool true) := Blk.cell H2.out.kb 0
  have e1 : w2.cell? ⟨c, 1, none⟩ = some (.bool true) := Blk.cell H2.out.kb 1
  go_wp2_with fail
  go_end0
  exact ⟨rfl, _, _, _, H2.out.pb⟩
set_option maxHeartbeats 3200000 in
theorem turnM_ttft (w0 : World) (s : S) (x y z : Value) (w : World) (h : Pb w0 s x y z w) (hok : Ok s) (hT : Tabs w0) (hs : s.swapped = true) :
    Calls Tryz.prog 106 #[.pointer (some ⟨w0.heap.size, 0, none⟩), .agg #[.bool true, .bool true], .bool false] w fun e w' => e = .returned (.tuple #[]) ∧ ∃ x' y' z', Pb w0 (turnS s true true false) x' y' z' w' := by
  have HE : Hid (turnS s true true false = restS (swapS (s) false)) := Lib.hid (by
    have e : turnS s true true false = restS (swapS (s) false) := by
      unfold turnS turnB turnA
      rw [hs]
      rfl
    rw [e])
  rw [HE.out]
  have HT := Lib.hid hT
  have HOK := Lib.hid hok
  have H1 : Hid (Kb w0 w.heap.size (swbx true true) s x y z (w.alloc (swbx true true))) := Lib.hid ⟨h.kept (bel_alloc w _), heap_alloc_new _ _, by have := h.pn.up; omega⟩
  have c6 : (w.alloc (swbx true true)).cell? ⟨w0.heap.size, 6, none⟩ = some (.bool true) := by have k := H1.out.pb.pn.box.cell 6; rw [sarr_6, hs] at k; exact k
  clear h hok hT hs HE
  go_enter Tryz.func106, Tryz.ntmps106
  go_upto_region 2 with (fail)
  change Code.wp _ _ _ _ (w.alloc (swbx true true))
  clear c6
  generalize w.alloc (swbx true true) = w1 at H1 ⊢
  generalize w.heap.size = c at H1 ⊢
  have e0 : w1.cell? ⟨c, 0, none⟩ = some (.bool true) := Blk.cell H1.out.kb 0
  go_upto_region 4 with (fail)
  clear e0
  have c6 : w1.cell? ⟨w0.heap.size, 6, none⟩ = some (.bool (s).swapped) := H1.out.pb.pn.box.cell 6
  have f6 : w1.frozen? ⟨w0.heap.size, 6, none⟩ = false := H1.out.pb.pn.box.free 6
  go_upto_region 5 with (fail)
  change Code.wp _ _ _ _ (w1.setCell ⟨w0.heap.size, 6, none⟩ (.bool false))
  have H2 := Lib.hid (H1.out.only (H1.out.pb.swap false) ((Only.refl w0.heap.size w1).set _ _))
  clear c6 f6 H1
  generalize w1.setCell ⟨w0.heap.size, 6, none⟩ (.bool false) = w2 at H2 ⊢
  have e0 : w2.cell? ⟨c, 0, none⟩ = some (.bool true) := Blk.cell H2.out.kb 0
  have e1 : w2.cell? ⟨c, 1, none⟩ = some (.bool true) := Blk.cell H2.out.kb 1
  go_wp2_with (refine wp_loadS (b := w0.heap.size) (s := swapS (s) false) rfl rfl rfl H2.out.pb.pn.box ?_)
  refine (restoreD (swapS (s) false) x y z w2 H2.out.pb.pn.own.in_ (swapS_ok (HOK.out) false).holds (HT.out.kept H2.out.pb.bel)).mono ?_; rintro e w3 ⟨X, x4, y4, z4, code, rfl, hans⟩
  obtain rfl := hans.yes ((ok_iff _).2 (swapS_ok (HOK.out) false))
  have H3 := Lib.hid (H2.out.kept hans.bel)
  have HW := Lib.hid hans.own
  have HU := Lib.hid H2.out.up
  clear hans H2 e0 e1
  go_wp2_with (refine wp_storeS (b := w0.heap.size) (A := sarr (restS (swapS (s) false)) x4 y4 z4) rfl rfl rfl rfl rfl HW.out.in_.one H3.out.pb.pn.box rfl ?_; intro w4 h5)
  go_end0
  exact ⟨rfl, _, _, _, (H3.out.put HW.out HU.out h5).pb⟩
set_option maxHeartbeats 3200000 in
theorem turnM_tttf (w0 : World) (s : S) (x y z : Value) (w : World) (h : Pb w0 s x y z w) (hok : Ok s) (hT : Tabs w0) (hs : s.swapped = false) :
    Calls Tryz.prog 106 #[.pointer (some ⟨w0.heap.size, 0, none⟩), .agg #[.bool true, .bool true], .bool true] w fun e w' => e = .returned (.tuple #[]) ∧ ∃ x' y' z', Pb w0 (turnS s true true true) x' y' z' w' := by
  have HBK : Hid (withC (editS (plainC (swapS (saveS s) true)) 74 2) (swapS (saveS s) true).cur = blankS (swapS (saveS s) true)) := Lib.hid (blank_is (swapS_ok (saveS_ok hok) _) rfl)
  have HE : Hid (turnS s true true true = withC (editS (plainC (swapS (saveS s) true)) 74 2) (swapS (saveS s) true).cur) := Lib.hid (by
    have e : turnS s true true true = blankS (swapS (saveS s) true) := by
      unfold turnS turnB turnA
      rw [hs]
      rfl
    rw [e, HBK.out])
  rw [HE.out]
  have HT := Lib.hid hT
  have HOK := Lib.hid hok
  have H1 : Hid (Kb w0 w.heap.size (swbx true true) s x y z (w.alloc (swbx true true))) := Lib.hid ⟨h.kept (bel_alloc w _), heap_alloc_new _ _, by have := h.pn.up; omega⟩
  have c6 : (w.alloc (swbx true true)).cell? ⟨w0.heap.size, 6, none⟩ = some (.bool false) := by have k := H1.out.pb.pn.box.cell 6; rw [sarr_6, hs] at k; exact k
  clear h hok hT hs HBK HE
  go_enter Tryz.func106, Tryz.ntmps106
  go_upto_region 2 with (fail)
  change Code.wp _ _ _ _ (w.alloc (swbx true true))
  clear c6
  generalize w.alloc (swbx true true) = w1 at H1 ⊢
  generalize w.heap.size = c at H1 ⊢
  have e0 : w1.cell? ⟨c, 0, none⟩ = some (.bool true) := Blk.cell H1.out.kb 0
  go_wp2_with (refine wp_loadS (b := w0.heap.size) (s := s) rfl rfl rfl H1.out.pb.pn.box ?_)
  refine (saveD (s) x y z w1 H1.out.pb.pn.own.in_ (HOK.out).holds (HT.out.kept H1.out.pb.bel)).mono ?_; rintro e w2 ⟨X, x3, y3, z3, code, rfl, hans⟩
  obtain rfl := hans.yes ((ok_iff _).2 (HOK.out))
  have H2 := Lib.hid (H1.out.kept hans.bel)
  have HW := Lib.hid hans.own
  have HU := Lib.hid H1.out.up
  clear hans H1 e0
  go_upto_region 4 with (refine wp_storeS (b := w0.heap.size) (A := sarr (saveS s) x3 y3 z3) rfl rfl rfl rfl rfl HW.out.in_.one H2.out.pb.pn.box rfl ?_; intro w3 h5)
  go_simp
  change Code.wp _ _ _ _ w3
  have H3 := Lib.hid (H2.out.put HW.out HU.out h5)
  clear h5 H2 HW HU
  have c6 : w3.cell? ⟨w0.heap.size, 6, none⟩ = some (.bool (saveS s).swapped) := H3.out.pb.pn.box.cell 6
  have f6 : w3.frozen? ⟨w0.heap.size, 6, none⟩ = false := H3.out.pb.pn.box.free 6
  go_upto_region 5 with (fail)
  change Code.wp _ _ _ _ (w3.setCell ⟨w0.heap.size, 6, none⟩ (.bool true))
  have H4 := Lib.hid (H3.out.only (H3.out.pb.swap true) ((Only.refl w0.heap.size w3).set _ _))
  clear c6 f6 H3
  generalize w3.setCell ⟨w0.heap.size, 6, none⟩ (.bool true) = w4 at H4 ⊢
  have e0 : w4.cell? ⟨c, 0, none⟩ = some (.bool true) := Blk.cell H4.out.kb 0
  have e1 : w4.cell? ⟨c, 1, none⟩ = some (.bool true) := Blk.cell H4.out.kb 1
  go_wp2_with fail
  refine (blankM_any w0 (swapS (saveS s) true) x3 y3 z3 w4 H4.out.pb (swapS_ok (saveS_ok HOK.out) true) HT.out).mono ?_; rintro e w5 ⟨rfl, x5, y5, z5, hp, hon⟩
  have H5 := Lib.hid (H4.out.only hp hon)
  clear hp hon H4 e0 e1
  have e0 : w5.cell? ⟨c, 0, none⟩ = some (.bool true) := Blk.cell H5.out.kb 0
  go_wp2_with fail
  go_end0
  exact ⟨rfl, _, _, _, H5.out.pb⟩
set_option maxHeartbeats 3200000 in
theorem turnM_tttt (w0 : World) (s : S) (x y z : Value) (w : World) (h : Pb w0 s x y z w) (hok : Ok s) (hT : Tabs w0) (hs : s.swapped = true) :
    Calls Tryz.prog 106 #[.pointer (some ⟨w0.heap.size, 0, none⟩), .agg #[.bool true, .bool true], .bool true] w fun e w' => e = .returned (.tuple #[]) ∧ ∃ x' y' z', Pb w0 (turnS s true true true) x' y' z' w' := by
  have HE : Hid (turnS s true true true = swapS (saveS s) true) := Lib.hid (by
    have e : turnS s true true true = swapS (saveS s) true := by
      unfold turnS turnB turnA
      rw [hs]
      rfl
    rw [e])
  rw [HE.out]
  have HT := Lib.hid hT
  have HOK := Lib.hid hok
  have H1 : Hid (Kb w0 w.heap.size (swbx true true) s x y z (w.alloc (swbx true true))) := Lib.hid ⟨h.kept (bel_alloc w _), heap_alloc_new _ _, by have := h.pn.up; omega⟩
  have c6 : (w.alloc (swbx true true)).cell? ⟨w0.heap.size, 6, none⟩ = some (.bool true) := by have k := H1.out.pb.pn.box.cell 6; rw [sarr_6, hs] at k; exact k
  clear h hok hT hs HE
  go_enter Tryz.func106, Tryz.ntmps106
  go_upto_region 2 with (fail)
  change Code.wp _ _ _ _ (w.alloc (swbx true true))
  clear c6
  generalize w.alloc (swbx true true) = w1 at H1 ⊢
  generalize w.heap.size = c at H1 ⊢
  have e0 : w1.cell? ⟨c, 0, none⟩ = some (.bool true) := Blk.cell H1.out.kb 0
  go_wp2_with (refine wp_loadS (b := w0.heap.size) (s := s) rfl rfl rfl H1.out.pb.pn.box ?_)
  refine (saveD (s) x y z w1 H1.out.pb.pn.own.in_ (HOK.out).holds (HT.out.kept H1.out.pb.bel)).mono ?_; rintro e w2 ⟨X, x3, y3, z3, code, rfl, hans⟩
  obtain rfl := hans.yes ((ok_iff _).2 (HOK.out))
  have H2 := Lib.hid (H1.out.kept hans.bel)
  have HW := Lib.hid hans.own
  have HU := Lib.hid H1.out.up
  clear hans H1 e0
  go_upto_region 4 with (refine wp_storeS (b := w0.heap.size) (A := sarr (saveS s) x3 y3 z3) rfl rfl rfl rfl rfl HW.out.in_.one H2.out.pb.pn.box rfl ?_; intro w3 h5)
  go_simp
  change Code.wp _ _ _ _ w3
  have H3 := Lib.hid (H2.out.put HW.out HU.out h5)
  clear h5 H2 HW HU
  have c6 : w3.cell? ⟨w0.heap.size, 6, none⟩ = some (.bool (saveS s).swapped) := H3.out.pb.pn.box.cell 6
  have f6 : w3.frozen? ⟨w0.heap.size, 6, none⟩ = false := H3.out.pb.pn.box.free 6
  go_upto_region 5 with (fail)
  change Code.wp _ _ _ _ (w3.setCell ⟨w0.heap.size, 6, none⟩ (.bool true))
  have H4 := Lib.hid (H3.out.only (H3.out.pb.swap true) ((Only.refl w0.heap.size w3).set _ _))
  clear c6 f6 H3
  generalize w3.setCell ⟨w0.heap.size, 6, none⟩ (.bool true) = w4 at H4 ⊢
  have e0 : w4.cell? ⟨c, 0, none⟩ = some (.bool true) := Blk.cell H4.out.kb 0
  have e1 : w4.cell? ⟨c, 1, none⟩ = some (.bool true) := Blk.cell H4.out.kb 1
  go_wp2_with fail
  go_end0
  exact ⟨rfl, _, _, _, H4.out.pb⟩
def SwapOk (k bl : Bool) : Prop := k = true → bl = true
theorem turnM_any (w0 : World) (s : S) (x y z : Value) (k bl on : Bool) (w : World) (h : Pb w0 s x y z w) (hok : Ok s) (hT : Tabs w0) (hd : SwapOk k bl) :
    Calls Tryz.prog 106 #[.pointer (some ⟨w0.heap.size, 0, none⟩), .agg #[.bool k, .bool bl], .bool on] w fun e w' => e = .returned (.tuple #[]) ∧ ∃ x' y' z', Pb w0 (turnS s k bl on) x' y' z' w' := by
  cases k with
  | false =>
    cases bl with
    | false =>
      cases on with
      | false =>
        cases hs : s.swapped
        · exact turnM_ffff w0 s x y z w h hok hT hs
        · exact turnM_ffft w0 s x y z w h hok hT hs
      | true =>
        cases hs : s.swapped
        · exact turnM_fftf w0 s x y z w h hok hT hs
        · exact turnM_fftt w0 s x y z w h hok hT hs
    | true =>
      cases on with
      | false =>
        cases hs : s.swapped
        · exact turnM_ftff w0 s x y z w h hok hT hs
        · exact turnM_ftft w0 s x y z w h hok hT hs
      | true =>
        cases hs : s.swapped
        · exact turnM_fttf w0 s x y z w h hok hT hs
        · exact turnM_fttt w0 s x y z w h hok hT hs
  | true =>
    cases bl with
    | false => exact absurd (hd rfl) (by simp)
    | true =>
      cases on with
      | false =>
        cases hs : s.swapped
        · exact turnM_ttff w0 s x y z w h hok hT hs
        · exact turnM_ttft w0 s x y z w h hok hT hs
      | true =>
        cases hs : s.swapped
        · exact turnM_tttf w0 s x y z w h hok hT hs
        · exact turnM_tttt w0 s x y z w h hok hT hs
@[go_sem] theorem is_origin_origin (v : Value) (w : World) : (Instr.typeAssert (.iface 111 v) 64 111 true).run Tryz.prog w = .ok (.tuple #[v, .bool true]) w := by kernel_rfl
@[go_sem] theorem is_origin_flag (v : Value) (w : World) : (Instr.typeAssert (.iface 117 v) 64 111 true).run Tryz.prog w = .ok (.tuple #[.agg #[], .bool false]) w := by kernel_rfl
@[go_sem] theorem is_origin_swap (v : Value) (w : World) : (Instr.typeAssert (.iface 114 v) 64 111 true).run Tryz.prog w = .ok (.tuple #[.agg #[], .bool false]) w := by kernel_rfl
@[go_sem] theorem is_swap_swap (v : Value) (w : World) : (Instr.typeAssert (.iface 114 v) 64 114 true).run Tryz.prog w = .ok (.tuple #[v, .bool true]) w := by kernel_rfl
@[go_sem] theorem is_swap_flag (v : Value) (w : World) : (Instr.typeAssert (.iface 117 v) 64 114 true).run Tryz.prog w = .ok (.tuple #[.agg #[.bool false, .bool false], .bool false]) w := by kernel_rfl
@[go_sem] theorem must_flag (v : Value) (w : World) : (Instr.typeAssert (.iface 117 v) 64 117 false).run Tryz.prog w = .ok v w := by kernel_rfl
abbrev orbx : Obj := .cells #[] 111 (0, 0)
set_option maxHeartbeats 3200000 in
theorem doM_flag (w0 : World) (s : S) (x y z : Value) (b : Int) (on : Bool) (w : World) (h : Pb w0 s x y z w) :
    Calls Tryz.prog 55 #[.pointer (some ⟨w0.heap.size, 0, none⟩), .iface 117 (.int .i64 b), .bool on] w fun e w' => e = .returned (.tuple #[]) ∧ ∃ x' y' z', Pb w0 (putM s b on) x' y' z' w' := by
  have H1 := Lib.hid (h.kept ((bel_alloc w orbx).trans ((bel_alloc (w.alloc orbx) (swbx false false)).mono (by simp))))
  clear h
  go_enter Tryz.func55, Tryz.ntmps55
  go_wp2_with fail
  refine (putM_any s x y z w0.heap.size (w0.heap.size + 2) b on _ H1.out.pn).mono ?_; rintro e w3 ⟨rfl, hp, hn⟩
  have H3 := Lib.hid (H1.out.near hp hn)
  clear hp hn
  go_wp2_with fail
  go_end0
  exact ⟨rfl, _, _, _, H3.out⟩
set_option maxHeartbeats 3200000 in
theorem doM_swap (w0 : World) (s : S) (x y z : Value) (k bl on : Bool) (w : World) (h : Pb w0 s x y z w) (hok : Ok s) (hT : Tabs w0) (hd : SwapOk k bl) :
    Calls Tryz.prog 55 #[.pointer (some ⟨w0.heap.size, 0, none⟩), .iface 114 (.agg #[.bool k, .bool bl]), .bool on] w fun e w' => e = .returned (.tuple #[]) ∧ ∃ x' y' z', Pb w0 (turnS s k bl on) x' y' z' w' := by
  have H1 := Lib.hid (turnM_any w0 s x y z k bl on _ (h.kept ((bel_alloc w orbx).trans ((bel_alloc (w.alloc orbx) (swbx k bl)).mono (by simp)))) hok hT hd)
  clear h hok hT hd
  go_enter Tryz.func55, Tryz.ntmps55
  go_wp2_with fail
  refine H1.out.mono ?_; rintro e w3 ⟨rfl, x3, y3, z3, hp⟩
  have H3 := Lib.hid hp
  clear hp H1
  go_wp2_with fail
  go_returns
  exact ⟨rfl, _, _, _, H3.out⟩
set_option maxHeartbeats 3200000 in
theorem doM_origin (w0 : World) (s : S) (x y z : Value) (on : Bool) (w : World) (h : Pb w0 s x y z w) (hok : Ok s) (hT : Tabs w0) :
    Calls Tryz.prog 55 #[.pointer (some ⟨w0.heap.size, 0, none⟩), .iface 111 (.agg #[]), .bool on] w fun e w' => e = .returned (.tuple #[]) ∧ ∃ x' y' z', Pb w0 (moveS (originS s on) 72 1 1) x' y' z' w' := by
  have HT := Lib.hid hT
  have HOK := Lib.hid (originS_ok hok on)
  have H1 := Lib.hid (h.kept (bel_alloc w orbx))
  clear h hok hT
  go_enter Tryz.func55, Tryz.ntmps55
  go_upto_region 2 with (fail)
  change Code.wp _ _ _ _ (w.alloc orbx)
  generalize w.alloc orbx = w1 at H1 ⊢
  have c16 : w1.cell? ⟨w0.heap.size, 16, none⟩ = some (.bool s.cur.origin) := H1.out.pn.box.cell 16
  have f16 : w1.frozen? ⟨w0.heap.size, 16, none⟩ = false := H1.out.pn.box.free 16
  go_upto_region 3 with (fail)
  change Code.wp _ _ _ _ (w1.setCell ⟨w0.heap.size, 16, none⟩ (.bool on))
  have H2 := Lib.hid (H1.out.origin on)
  clear c16 f16 H1
  generalize w1.setCell ⟨w0.heap.size, 16, none⟩ (.bool on) = w2 at H2 ⊢
  go_wp2_with (refine wp_loadS (b := w0.heap.size) (s := originS s on) rfl rfl rfl H2.out.pn.box ?_)
  refine (homeD (originS s on) x y z w2 H2.out.pn.own.in_ HOK.out.holds (HT.out.kept H2.out.bel)).mono ?_; rintro e w4 ⟨X, x4, y4, z4, code, rfl, hans⟩
  obtain rfl := hans.yes ((ok_iff _).2 HOK.out)
  have H4 := Lib.hid (H2.out.kept hans.bel)
  have HW := Lib.hid hans.own
  have HU := Lib.hid H2.out.pn.up
  clear hans H2
  go_wp2_with (refine wp_storeS (b := w0.heap.size) (A := sarr (homeS (originS s on)) x4 y4 z4) rfl rfl rfl rfl rfl HW.out.in_.one H4.out.pn.box rfl ?_; intro w5 h5)
  go_returns
  exact ⟨rfl, _, _, _, (H4.out.put HW.out HU.out h5).1⟩
def MDeedOk : MDeed → Prop
  | .swap k bl => SwapOk k bl
  | _ => True
theorem deedM_ok (p : Bool) (n : Int) : MDeedOk (deedM p n) := by
  unfold deedM
  split
  · trivial
  split
  · exact fun h => by cases h
  split
  · exact fun h => by cases h
  split
  · exact fun _ => rfl
  · trivial
theorem doM_any (w0 : World) (s : S) (x y z : Value) (d : MDeed) (on : Bool) (w : World) (h : Pb w0 s x y z w) (hok : Ok s) (hT : Tabs w0) (hd : MDeedOk d) :
    Calls Tryz.prog 55 #[.pointer (some ⟨w0.heap.size, 0, none⟩), deedMV d, .bool on] w fun e w' => e = .returned (.tuple #[]) ∧ ∃ x' y' z', Pb w0 (doM s on d) x' y' z' w' := by
  cases d with
  | flag b => exact doM_flag w0 s x y z b on w h
  | origin => exact doM_origin w0 s x y z on w h hok hT
  | swap k bl => exact doM_swap w0 s x y z k bl on w h hok hT hd
end Scr
end
section
open Go.RowKit
namespace Scr
open Go.Proofs.YtceaoadlhdgnmaaGreatDoor.Row
theorem below_side {B a j : Nat} {w0 w : World} {cs : Array Value} {t : TypeId} (h : Below B w0 w) (hx : w0.heap[a]? = some (.cells cs t (0, 0))) (ha : a < B) (u : Value) : Below B (w0.setCell ⟨a, j, none⟩ u) (w.setCell ⟨a, j, none⟩ u) := by
  have hx' : w.heap[a]? = some (.cells cs t (0, 0)) := (h.block a ha).trans hx
  refine ⟨h.os, h.tape, h.output, by rw [size_set, size_set]; exact h.size, fun k hk => ?_⟩
  by_cases e : k = a
  · subst e; rw [Blk.set hx' j u, Blk.set hx j u]
  · rw [heap_setCell_other w ⟨a, j, none⟩ k u e, heap_setCell_other w0 ⟨a, j, none⟩ k u e]; exact h.block k hk
def Pv (B c : Nat) (w0 : World) (s : S) (x y z : Value) (w : World) : Prop := ∃ v : World, v.heap.size = w0.heap.size ∧ (Below B w0 v ∧ v.heap[c]? = w0.heap[c]?) ∧ Pb v s x y z w
theorem Pv.start {B c : Nat} {w0 w : World} {s : S} {x y z : Value} (h : Pb w0 s x y z w) : Pv B c w0 s x y z w := ⟨w0, rfl, ⟨Below.refl _ _, rfl⟩, h⟩
theorem Pv.pn {B c : Nat} {w0 w : World} {s : S} {x y z : Value} (h : Pv B c w0 s x y z w) : Pn w w0.heap.size (w0.heap.size + 2) s x y z := by
  obtain ⟨v, e, _, k⟩ := h
  have q := k.pn
  rwa [e] at q
theorem Pv.b1 {B c : Nat} {w0 w : World} {s : S} {x y z : Value} (h : Pv B c w0 s x y z w) : w.heap[w0.heap.size + 1]? = some (.cells zarr 36 (0, 0)) := by
  obtain ⟨v, e, _, k⟩ := h
  have q := k.b1
  rwa [e] at q
theorem Pv.bel {B c : Nat} {w0 w : World} {s : S} {x y z : Value} (h : Pv B c w0 s x y z w) (hB : B ≤ w0.heap.size) : Below B w0 w := by
  obtain ⟨v, e, hb, k⟩ := h
  exact hb.1.trans (k.bel.mono (by omega))
theorem Pv.kept {B c : Nat} {w0 w w' : World} {s : S} {x y z : Value} (h : Pv B c w0 s x y z w) (hb : Below w.heap.size w w') : Pv B c w0 s x y z w' := by
  obtain ⟨v, e, h1, k⟩ := h
  exact ⟨v, e, h1, k.kept hb⟩
theorem Pv.to {B c : Nat} {w0 w w' : World} {s s' : S} {x y z x' y' z' : Value} (h : Pv B c w0 s x y z w) (f : ∀ v : World, v.heap.size = w0.heap.size → Pb v s x y z w → Pb v s' x' y' z' w') : Pv B c w0 s' x' y' z' w' := by
  obtain ⟨v, e, h1, k⟩ := h
  exact ⟨v, e, h1, f v e k⟩
theorem Pv.side {B c a j : Nat} {w0 w : World} {s : S} {x y z : Value} {cs : Array Value} {t : TypeId} (h : Pv B c w0 s x y z w) (hx : w.heap[a]? = some (.cells cs t (0, 0))) (h1 : B ≤ a) (h2 : a < w0.heap.size) (h3 : c ≠ a) (u : Value) : Pv B c w0 s x y z (w.setCell ⟨a, j, none⟩ u) := by
  obtain ⟨v, e, hb, k⟩ := h
  have hx0 : v.heap[a]? = some (.cells cs t (0, 0)) := (k.bel.block a (by omega)).symm.trans hx
  refine ⟨v.setCell ⟨a, j, none⟩ u, by rw [size_set]; exact e, ⟨hb.1.setCell h1 _, (heap_setCell_other v ⟨a, j, none⟩ c u h3).trans hb.2⟩, ?_⟩
  have hp := k.pn
  refine ⟨?_, ?_, ?_⟩
  · rw [size_set]
    exact ⟨Blk.other hp.box (by omega) j u, hp.own.set (by omega) j u, hp.lt, by rw [size_set]; exact hp.up⟩
  · rw [size_set]; exact Blk.other k.b1 (by omega) j u
  · rw [size_set]; exact below_side k.bel hx0 (by omega) u
set_option maxHeartbeats 6400000 in
theorem changedM_set (p1 p2 p3 : Value) (s s' : S) (x y z : Value) (w : World) (h : In w s x y z) (hh : Holds s) (hT : Tabs w) (hok : okB s = true)
    (hcl : ∀ (W : World) (x' y' z' : Value), Pb w s x' y' z' W → Apart x' y' → Calls Tryz.prog 54 #[.pointer (some ⟨w.heap.size, 0, none⟩), p1, p2, p3] W fun e w' => e = .returned (.tuple #[]) ∧ ∃ x3 y3 z3, Pb w s' x3 y3 z3 w') :
    Calls Tryz.prog 53 #[sv s x y z, .func (.func 54) #[] #[p1, p2, p3]] w fun e w' => ∃ x' y' z', e = .returned (.tuple #[sv s' x' y' z', .int .i64 0]) ∧ Own w' w.heap.size s' x' y' z' ∧ Below w.heap.size w w' := by
  have HI := Lib.hid h
  have H0 := Lib.hid (Pc.start w s x y z)
  have HL := Lib.hid ((ok_iff s).1 hok).lens
  have HCK := Lib.hid (check_any s x y z _ (h.kept H0.out.bel) hh (hT.kept H0.out.bel))
  have HCL := Lib.hid hcl
  rw [hok] at HCK
  unfold codeB at HCK
  clear h hh hT hok hcl
  go_enter Tryz.func53, Tryz.ntmps53
  go_wp2_with (first
    | (refine wp_allocS1 (w := w) rfl rfl ?_)
    | (refine wp_loadS (b := w.heap.size) (s := s) rfl rfl rfl H0.out.b0 ?_))
  refine HCK.out.mono ?_; rintro e w0 ⟨rfl, hb⟩
  have H1 := Lib.hid (H0.out.kept hb)
  clear hb H0 HCK
  have c0 : ∀ j, w0.cell? ⟨w.heap.size, j, none⟩ = (sarr s x y z)[j]? := H1.out.b0.cell
  go_wp2_with fail
  refine (Row.clone_any s.main.cells x _ (HI.out.kept H1.out.bel).m.cs HL.out.1).mono ?_; rintro e w1 ⟨v1, rfl, ho, hb⟩
  obtain ⟨A2, n2, c2, rfl⟩ : ∃ A n c, v1 = .slice A n c := (by obtain ⟨A, c, e, _⟩ := ho.rm.2; exact ⟨A, _, c, e⟩)
  have H1' := Lib.hid (H1.out.kept hb)
  have HU := Lib.hid H1.out.up
  have H2 := Lib.hid (H1'.out.putM (.slice A2 n2 c2))
  have HM := Lib.hid ((ho.low HU.out).set (show w.heap.size < w.heap.size + 2 by omega) 2 (.slice A2 n2 c2))
  have f1 : ∀ j, w1.frozen? ⟨w.heap.size, j, none⟩ = false := H1'.out.b0.free
  have c1 : ∀ j, w1.cell? ⟨w.heap.size, j, none⟩ = (sarr s x y z)[j]? := H1'.out.b0.cell
  clear ho hb H1 HU c0
  go_upto_region 5 with (fail)
  change Code.wp _ _ _ _ (w1.setCell ⟨w.heap.size, 2, none⟩ (.slice A2 n2 c2))
  clear f1 c1 H1'
  generalize w1.setCell ⟨w.heap.size, 2, none⟩ (.slice A2 n2 c2) = w2 at H2 HM ⊢
  have c2' : ∀ j, w2.cell? ⟨w.heap.size, j, none⟩ = (sarr s (.slice A2 n2 c2) y z)[j]? := H2.out.b0.cell
  go_wp2_with fail
  refine (Row.clone_any s.other.cells y _ (HI.out.kept H2.out.bel).o.cs HL.out.2.1).mono ?_; rintro e w3 ⟨v1, rfl, ho, hb⟩
  obtain ⟨A3, n3, c3, rfl⟩ : ∃ A n c, v1 = .slice A n c := (by obtain ⟨A, c, e, _⟩ := ho.rm.2; exact ⟨A, _, c, e⟩)
  have H3 := Lib.hid (H2.out.kept hb)
  have HU := Lib.hid H2.out.up
  have H4 := Lib.hid (H3.out.putO (.slice A3 n3 c3))
  have HAP : Hid (Apart (.slice A2 n2 c2) (.slice A3 n3 c3)) := Lib.hid (fun k e1 e2 => by have h1 := (HM.out.lt k e1).2; have h2 := (ho.lt k e2).1; omega)
  have HM4 := Lib.hid ((HM.out.kept hb).set (show w.heap.size < w.heap.size + 2 by omega) 5 (.slice A3 n3 c3))
  have HO4 := Lib.hid ((ho.low HU.out).set (show w.heap.size < w.heap.size + 2 by omega) 5 (.slice A3 n3 c3))
  have f3 : ∀ j, w3.frozen? ⟨w.heap.size, j, none⟩ = false := H3.out.b0.free
  have c3' : ∀ j, w3.cell? ⟨w.heap.size, j, none⟩ = (sarr s (.slice A2 n2 c2) y z)[j]? := H3.out.b0.cell
  clear ho hb H2 HU HM c2'
  go_upto_region 6 with (fail)
  change Code.wp _ _ _ _ (w3.setCell ⟨w.heap.size, 5, none⟩ (.slice A3 n3 c3))
  clear f3 c3' H3
  generalize w3.setCell ⟨w.heap.size, 5, none⟩ (.slice A3 n3 c3) = w4 at H4 HM4 HO4 ⊢
  have c4' : ∀ j, w4.cell? ⟨w.heap.size, j, none⟩ = (sarr s (.slice A2 n2 c2) (.slice A3 n3 c3) z)[j]? := H4.out.b0.cell
  go_wp2_with fail
  refine (Tab.clone_any s.tabs z _ (HI.out.kept H4.out.bel).t HL.out.2.2).mono ?_; rintro e w5 ⟨v1, rfl, ho, hb⟩
  obtain ⟨A5, n5, c5, rfl⟩ : ∃ A n c, v1 = .slice A n c := (by obtain ⟨A, c, e, _⟩ := ho.bl.room; exact ⟨A, _, c, e⟩)
  have H5 := Lib.hid (H4.out.kept hb)
  have HU := Lib.hid H4.out.up
  have H6 := Lib.hid (H5.out.putT (.slice A5 n5 c5))
  have HO6 : Hid (Own (w5.setCell ⟨w.heap.size, 39, none⟩ (.slice A5 n5 c5)) (w.heap.size + 2) s (.slice A2 n2 c2) (.slice A3 n3 c3) (.slice A5 n5 c5)) := Lib.hid ⟨(HM4.out.kept hb).set (by omega) 39 _, (HO4.out.kept hb).set (by omega) 39 _, ownB_set (ho.low HU.out) (by omega) 39 _⟩
  have f5 : ∀ j, w5.frozen? ⟨w.heap.size, j, none⟩ = false := H5.out.b0.free
  have c5' : ∀ j, w5.cell? ⟨w.heap.size, j, none⟩ = (sarr s (.slice A2 n2 c2) (.slice A3 n3 c3) z)[j]? := H5.out.b0.cell
  clear ho hb H4 HU HM4 HO4 c4'
  go_upto_region 7 with (fail)
  change Code.wp _ _ _ _ (w5.setCell ⟨w.heap.size, 39, none⟩ (.slice A5 n5 c5))
  clear f5 c5' H5
  generalize w5.setCell ⟨w.heap.size, 39, none⟩ (.slice A5 n5 c5) = w6 at H6 HO6 ⊢
  have HP6 := Lib.hid (H6.out.pbE HO6.out)
  clear H6 HO6
  go_wp2_with fail
  refine (HCL.out w6 _ _ _ HP6.out HAP.out).mono ?_; rintro e w7 ⟨rfl, x3, y3, z3, hp⟩
  have HW := Lib.hid hp
  clear hp HP6
  go_wp2_with (first
    | (refine wp_loadS (b := w.heap.size) (s := s') rfl rfl rfl HW.out.pn.box ?_)
    | (refine wp_storeS (b := w.heap.size + 1) rfl rfl rfl rfl rfl HW.out.pn.own.in_.one HW.out.b1 rfl ?_; intro w9 h9))
  refine bodyPost_ret (ret2S rfl rfl h9.box rfl) rfl ?_
  exact ⟨_, _, _, rfl, Own.low (h9.own HW.out.pn.own (by omega)) (by omega), h9.below _ _ (by omega) HW.out.bel⟩
set_option maxHeartbeats 3200000 in
theorem changedM_no (F : Value) (s : S) (x y z : Value) (w : World) (h : In w s x y z) (hh : Holds s) (hT : Tabs w) (hok : okB s = false) :
    Calls Tryz.prog 53 #[sv s x y z, F] w fun e w' => e = .returned (.tuple #[sv noS nilS nilS nilS, .int .i64 1]) ∧ Below w.heap.size w w' := by
  have H0 := Lib.hid (Rz.start w s x y z)
  have HCK := Lib.hid (check_any s x y z _ (h.kept H0.out.bel) hh (hT.kept H0.out.bel))
  rw [hok] at HCK
  unfold codeB at HCK
  clear h hh hT hok
  go_enter Tryz.func53, Tryz.ntmps53
  go_wp2_with (first
    | (refine wp_allocS1 (w := w) rfl rfl ?_)
    | (refine wp_loadS (b := w.heap.size) (s := s) rfl rfl rfl H0.out.b0 ?_))
  refine HCK.out.mono ?_; rintro e w1 ⟨rfl, hb⟩
  have H1 := Lib.hid (H0.out.kept hb)
  clear hb H0 HCK
  go_wp2_with (refine wp_storeS (b := w.heap.size + 1) (A := zarr) rfl rfl rfl rfl rfl (sarr_one rfl rfl rfl) H1.out.b1 rfl ?_; intro w7 h7)
  refine bodyPost_ret (ret2S (s := noS) (x := nilS) (y := nilS) (z := nilS) rfl rfl h7.box rfl) rfl ?_
  exact ⟨rfl, h7.below _ _ (by omega) H1.out.bel⟩
end Scr
end
end Go.Proofs.YtceaoadlhdgnmaaGreatDoor
