/- Joined texts: ScrCurR. -/
import Derived.Test.YtceaoadlhdgnmaaGreatDoorM13
namespace Go.Proofs.YtceaoadlhdgnmaaGreatDoor
set_option maxRecDepth 100000
section
open Go.RowKit
namespace Scr
open Go.Proofs.YtceaoadlhdgnmaaGreatDoor.Row Wid
set_option maxHeartbeats 12000000 in
theorem refCursor_any (k : Cur) (R C m n : Int) (hm : IntKind.i64.wrap (R - 1) = m) (hn : IntKind.i64.wrap (C - 1) = n) (w : World) : Calls Tryz.prog 58 #[curV k, .int .i64 R, .int .i64 C] w fun e w' => e = .returned (.bool (cursorB k m n)) ∧ Below w.heap.size w w' := by
  obtain ⟨row, col, wrap, ⟨fg, bg, fl⟩, g0, g1, sh, org⟩ := k
  show Calls Tryz.prog _ #[.agg #[.int .i64 row, .int .i64 col, .bool wrap, .int .i64 fg, .int .i64 bg, .int .i64 fl, .int .i64 g0, .int .i64 g1, .int .i64 sh, .bool org], _, _] w _
  have HB := Lib.hid (bel_alloc w (.cells #[.int .i64 row, .int .i64 col, .bool wrap, .int .i64 fg, .int .i64 bg, .int .i64 fl, .int .i64 g0, .int .i64 g1, .int .i64 sh, .bool org] 33))
  cases hrow : rng row 0 m
  · have Hrow := Lib.hid hrow
    have HE : Hid (cursorB ⟨row, col, wrap, ⟨fg, bg, fl⟩, g0, g1, sh, org⟩ m n = false) := Lib.hid (by simp [cursorB, hrow])
    go_enter Tryz.func58, Tryz.ntmps58
    go_wp2_with fail
    refine pureT (num_is Hrow.out _) ?_
    go_wp2_with fail
    go_ret
    exact ⟨ret_bool HE.out.symm, HB.out⟩
  · have Hrow := Lib.hid hrow
    cases hcol : rng col 0 n
    · have Hcol := Lib.hid hcol
      have HE : Hid (cursorB ⟨row, col, wrap, ⟨fg, bg, fl⟩, g0, g1, sh, org⟩ m n = false) := Lib.hid (by simp [cursorB, hrow, hcol])
      go_enter Tryz.func58, Tryz.ntmps58
      go_wp2_with fail
      refine pureT (num_is Hrow.out _) ?_
      go_wp2_with fail
      refine pureT (num_is Hcol.out _) ?_
      go_wp2_with fail
      go_ret
      exact ⟨ret_bool HE.out.symm, HB.out⟩
    · have Hcol := Lib.hid hcol
      cases wrap
      · skip
        cases hattr : attrOk ⟨fg, bg, fl⟩
        · have Hattr := Lib.hid hattr
          have HE : Hid (cursorB ⟨row, col, false, ⟨fg, bg, fl⟩, g0, g1, sh, org⟩ m n = false) := Lib.hid (by simp [cursorB, hrow, hcol, hattr])
          go_enter Tryz.func58, Tryz.ntmps58
          go_wp2_with fail
          refine pureT (num_is Hrow.out _) ?_
          go_wp2_with fail
          refine pureT (num_is Hcol.out _) ?_
          go_wp2_with fail
          refine (attr_at ⟨fg, bg, fl⟩ _ Hattr.out (w.alloc (.cells #[.int .i64 row, .int .i64 col, .bool false, .int .i64 fg, .int .i64 bg, .int .i64 fl, .int .i64 g0, .int .i64 g1, .int .i64 sh, .bool org] 33))).mono ?_; rintro e w1 ⟨rfl, hb1⟩
          have HB1 : Hid (Below w.heap.size w w1) := Lib.hid (HB.out.trans (hb1.mono HB.out.size))
          have HX : Hid (w1.heap[w.heap.size]? = some (.cells #[.int .i64 row, .int .i64 col, .bool false, .int .i64 fg, .int .i64 bg, .int .i64 fl, .int .i64 g0, .int .i64 g1, .int .i64 sh, .bool org] 33)) := Lib.hid (Blk.kept (heap_alloc_new _ _) hb1)
          have x6 : w1.cell? ⟨w.heap.size, 6, none⟩ = some (.int .i64 g0) := Blk.cell HX.out 6
          have x7 : w1.cell? ⟨w.heap.size, 7, none⟩ = some (.int .i64 g1) := Blk.cell HX.out 7
          have x8 : w1.cell? ⟨w.heap.size, 8, none⟩ = some (.int .i64 sh) := Blk.cell HX.out 8
          clear hb1
          go_wp2_with fail
          go_ret
          exact ⟨ret_bool HE.out.symm, HB1.out⟩
        · have Hattr := Lib.hid hattr
          cases hg0 : rng g0 0 1
          · have Hg0 := Lib.hid hg0
            have HE : Hid (cursorB ⟨row, col, false, ⟨fg, bg, fl⟩, g0, g1, sh, org⟩ m n = false) := Lib.hid (by simp [cursorB, hrow, hcol, hattr, hg0])
            go_enter Tryz.func58, Tryz.ntmps58
            go_wp2_with fail
            refine pureT (num_is Hrow.out _) ?_
            go_wp2_with fail
            refine pureT (num_is Hcol.out _) ?_
            go_wp2_with fail
            refine (attr_at ⟨fg, bg, fl⟩ _ Hattr.out (w.alloc (.cells #[.int .i64 row, .int .i64 col, .bool false, .int .i64 fg, .int .i64 bg, .int .i64 fl, .int .i64 g0, .int .i64 g1, .int .i64 sh, .bool org] 33))).mono ?_; rintro e w1 ⟨rfl, hb1⟩
            have HB1 : Hid (Below w.heap.size w w1) := Lib.hid (HB.out.trans (hb1.mono HB.out.size))
            have HX : Hid (w1.heap[w.heap.size]? = some (.cells #[.int .i64 row, .int .i64 col, .bool false, .int .i64 fg, .int .i64 bg, .int .i64 fl, .int .i64 g0, .int .i64 g1, .int .i64 sh, .bool org] 33)) := Lib.hid (Blk.kept (heap_alloc_new _ _) hb1)
            have x6 : w1.cell? ⟨w.heap.size, 6, none⟩ = some (.int .i64 g0) := Blk.cell HX.out 6
            have x7 : w1.cell? ⟨w.heap.size, 7, none⟩ = some (.int .i64 g1) := Blk.cell HX.out 7
            have x8 : w1.cell? ⟨w.heap.size, 8, none⟩ = some (.int .i64 sh) := Blk.cell HX.out 8
            clear hb1
            go_wp2_with fail
            refine pureT (num_is Hg0.out _) ?_
            go_wp2_with fail
            go_ret
            exact ⟨ret_bool HE.out.symm, HB1.out⟩
          · have Hg0 := Lib.hid hg0
            cases hg1 : rng g1 0 1
            · have Hg1 := Lib.hid hg1
              have HE : Hid (cursorB ⟨row, col, false, ⟨fg, bg, fl⟩, g0, g1, sh, org⟩ m n = false) := Lib.hid (by simp [cursorB, hrow, hcol, hattr, hg0, hg1])
              go_enter Tryz.func58, Tryz.ntmps58
              go_wp2_with fail
              refine pureT (num_is Hrow.out _) ?_
              go_wp2_with fail
              refine pureT (num_is Hcol.out _) ?_
              go_wp2_with fail
              refine (attr_at ⟨fg, bg, fl⟩ _ Hattr.out (w.alloc (.cells #[.int .i64 row, .int .i64 col, .bool false, .int .i64 fg, .int .i64 bg, .int .i64 fl, .int .i64 g0, .int .i64 g1, .int .i64 sh, .bool org] 33))).mono ?_; rintro e w1 ⟨rfl, hb1⟩
              have HB1 : Hid (Below w.heap.size w w1) := Lib.hid (HB.out.trans (hb1.mono HB.out.size))
              have HX : Hid (w1.heap[w.heap.size]? = some (.cells #[.int .i64 row, .int .i64 col, .bool false, .int .i64 fg, .int .i64 bg, .int .i64 fl, .int .i64 g0, .int .i64 g1, .int .i64 sh, .bool org] 33)) := Lib.hid (Blk.kept (heap_alloc_new _ _) hb1)
              have x6 : w1.cell? ⟨w.heap.size, 6, none⟩ = some (.int .i64 g0) := Blk.cell HX.out 6
              have x7 : w1.cell? ⟨w.heap.size, 7, none⟩ = some (.int .i64 g1) := Blk.cell HX.out 7
              have x8 : w1.cell? ⟨w.heap.size, 8, none⟩ = some (.int .i64 sh) := Blk.cell HX.out 8
              clear hb1
              go_wp2_with fail
              refine pureT (num_is Hg0.out _) ?_
              go_wp2_with fail
              refine pureT (num_is Hg1.out _) ?_
              go_wp2_with fail
              go_ret
              exact ⟨ret_bool HE.out.symm, HB1.out⟩
            · have Hg1 := Lib.hid hg1
              cases hsh : rng sh 0 1
              · have Hsh := Lib.hid hsh
                have HE : Hid (cursorB ⟨row, col, false, ⟨fg, bg, fl⟩, g0, g1, sh, org⟩ m n = false) := Lib.hid (by simp [cursorB, hrow, hcol, hattr, hg0, hg1, hsh])
                go_enter Tryz.func58, Tryz.ntmps58
                go_wp2_with fail
                refine pureT (num_is Hrow.out _) ?_
                go_wp2_with fail
                refine pureT (num_is Hcol.out _) ?_
                go_wp2_with fail
                refine (attr_at ⟨fg, bg, fl⟩ _ Hattr.out (w.alloc (.cells #[.int .i64 row, .int .i64 col, .bool false, .int .i64 fg, .int .i64 bg, .int .i64 fl, .int .i64 g0, .int .i64 g1, .int .i64 sh, .bool org] 33))).mono ?_; rintro e w1 ⟨rfl, hb1⟩
                have HB1 : Hid (Below w.heap.size w w1) := Lib.hid (HB.out.trans (hb1.mono HB.out.size))
                have HX : Hid (w1.heap[w.heap.size]? = some (.cells #[.int .i64 row, .int .i64 col, .bool false, .int .i64 fg, .int .i64 bg, .int .i64 fl, .int .i64 g0, .int .i64 g1, .int .i64 sh, .bool org] 33)) := Lib.hid (Blk.kept (heap_alloc_new _ _) hb1)
                have x6 : w1.cell? ⟨w.heap.size, 6, none⟩ = some (.int .i64 g0) := Blk.cell HX.out 6
                have x7 : w1.cell? ⟨w.heap.size, 7, none⟩ = some (.int .i64 g1) := Blk.cell HX.out 7
                have x8 : w1.cell? ⟨w.heap.size, 8, none⟩ = some (.int .i64 sh) := Blk.cell HX.out 8
                clear hb1
                go_wp2_with fail
                refine pureT (num_is Hg0.out _) ?_
                go_wp2_with fail
                refine pureT (num_is Hg1.out _) ?_
                go_wp2_with fail
                refine pureT (num_is Hsh.out _) ?_
                go_wp2_with fail
                go_ret
                exact ⟨ret_bool HE.out.symm, HB1.out⟩
              · have Hsh := Lib.hid hsh
                have HE : Hid (cursorB ⟨row, col, false, ⟨fg, bg, fl⟩, g0, g1, sh, org⟩ m n = true) := Lib.hid (by simp [cursorB, hrow, hcol, hattr, hg0, hg1, hsh])
                go_enter Tryz.func58, Tryz.ntmps58
                go_wp2_with fail
                refine pureT (num_is Hrow.out _) ?_
                go_wp2_with fail
                refine pureT (num_is Hcol.out _) ?_
                go_wp2_with fail
                refine (attr_at ⟨fg, bg, fl⟩ _ Hattr.out (w.alloc (.cells #[.int .i64 row, .int .i64 col, .bool false, .int .i64 fg, .int .i64 bg, .int .i64 fl, .int .i64 g0, .int .i64 g1, .int .i64 sh, .bool org] 33))).mono ?_; rintro e w1 ⟨rfl, hb1⟩
                have HB1 : Hid (Below w.heap.size w w1) := Lib.hid (HB.out.trans (hb1.mono HB.out.size))
                have HX : Hid (w1.heap[w.heap.size]? = some (.cells #[.int .i64 row, .int .i64 col, .bool false, .int .i64 fg, .int .i64 bg, .int .i64 fl, .int .i64 g0, .int .i64 g1, .int .i64 sh, .bool org] 33)) := Lib.hid (Blk.kept (heap_alloc_new _ _) hb1)
                have x6 : w1.cell? ⟨w.heap.size, 6, none⟩ = some (.int .i64 g0) := Blk.cell HX.out 6
                have x7 : w1.cell? ⟨w.heap.size, 7, none⟩ = some (.int .i64 g1) := Blk.cell HX.out 7
                have x8 : w1.cell? ⟨w.heap.size, 8, none⟩ = some (.int .i64 sh) := Blk.cell HX.out 8
                clear hb1
                go_wp2_with fail
                refine pureT (num_is Hg0.out _) ?_
                go_wp2_with fail
                refine pureT (num_is Hg1.out _) ?_
                go_wp2_with fail
                refine pureT (num_is Hsh.out _) ?_
                go_wp2_with fail
                go_ret
                exact ⟨ret_bool HE.out.symm, HB1.out⟩
      · cases hw : (col == n)
        · have HE : Hid (cursorB ⟨row, col, true, ⟨fg, bg, fl⟩, g0, g1, sh, org⟩ m n = false) := Lib.hid (by simp [cursorB, hrow, hcol, hw])
          go_enter Tryz.func58, Tryz.ntmps58
          go_wp2_with fail
          refine pureT (num_is Hrow.out _) ?_
          go_wp2_with fail
          refine pureT (num_is Hcol.out _) ?_
          go_wp2_with fail
          go_ret
          exact ⟨ret_bool HE.out.symm, HB.out⟩
        · skip
          cases hattr : attrOk ⟨fg, bg, fl⟩
          · have Hattr := Lib.hid hattr
            have HE : Hid (cursorB ⟨row, col, true, ⟨fg, bg, fl⟩, g0, g1, sh, org⟩ m n = false) := Lib.hid (by simp [cursorB, hrow, hcol, hw, hattr])
            go_enter Tryz.func58, Tryz.ntmps58
            go_wp2_with fail
            refine pureT (num_is Hrow.out _) ?_
            go_wp2_with fail
            refine pureT (num_is Hcol.out _) ?_
            go_wp2_with fail
            refine (attr_at ⟨fg, bg, fl⟩ _ Hattr.out (w.alloc (.cells #[.int .i64 row, .int .i64 col, .bool true, .int .i64 fg, .int .i64 bg, .int .i64 fl, .int .i64 g0, .int .i64 g1, .int .i64 sh, .bool org] 33))).mono ?_; rintro e w1 ⟨rfl, hb1⟩
            have HB1 : Hid (Below w.heap.size w w1) := Lib.hid (HB.out.trans (hb1.mono HB.out.size))
            have HX : Hid (w1.heap[w.heap.size]? = some (.cells #[.int .i64 row, .int .i64 col, .bool true, .int .i64 fg, .int .i64 bg, .int .i64 fl, .int .i64 g0, .int .i64 g1, .int .i64 sh, .bool org] 33)) := Lib.hid (Blk.kept (heap_alloc_new _ _) hb1)
            have x6 : w1.cell? ⟨w.heap.size, 6, none⟩ = some (.int .i64 g0) := Blk.cell HX.out 6
            have x7 : w1.cell? ⟨w.heap.size, 7, none⟩ = some (.int .i64 g1) := Blk.cell HX.out 7
            have x8 : w1.cell? ⟨w.heap.size, 8, none⟩ = some (.int .i64 sh) := Blk.cell HX.out 8
            clear hb1
            go_wp2_with fail
            go_ret
            exact ⟨ret_bool HE.out.symm, HB1.out⟩
          · have Hattr := Lib.hid hattr
            cases hg0 : rng g0 0 1
            · have Hg0 := Lib.hid hg0
              have HE : Hid (cursorB ⟨row, col, true, ⟨fg, bg, fl⟩, g0, g1, sh, org⟩ m n = false) := Lib.hid (by simp [cursorB, hrow, hcol, hw, hattr, hg0])
              go_enter Tryz.func58, Tryz.ntmps58
              go_wp2_with fail
              refine pureT (num_is Hrow.out _) ?_
              go_wp2_with fail
              refine pureT (num_is Hcol.out _) ?_
              go_wp2_with fail
              refine (attr_at ⟨fg, bg, fl⟩ _ Hattr.out (w.alloc (.cells #[.int .i64 row, .int .i64 col, .bool true, .int .i64 fg, .int .i64 bg, .int .i64 fl, .int .i64 g0, .int .i64 g1, .int .i64 sh, .bool org] 33))).mono ?_; rintro e w1 ⟨rfl, hb1⟩
              have HB1 : Hid (Below w.heap.size w w1) := Lib.hid (HB.out.trans (hb1.mono HB.out.size))
              have HX : Hid (w1.heap[w.heap.size]? = some (.cells #[.int .i64 row, .int .i64 col, .bool true, .int .i64 fg, .int .i64 bg, .int .i64 fl, .int .i64 g0, .int .i64 g1, .int .i64 sh, .bool org] 33)) := Lib.hid (Blk.kept (heap_alloc_new _ _) hb1)
              have x6 : w1.cell? ⟨w.heap.size, 6, none⟩ = some (.int .i64 g0) := Blk.cell HX.out 6
              have x7 : w1.cell? ⟨w.heap.size, 7, none⟩ = some (.int .i64 g1) := Blk.cell HX.out 7
              have x8 : w1.cell? ⟨w.heap.size, 8, none⟩ = some (.int .i64 sh) := Blk.cell HX.out 8
              clear hb1
              go_wp2_with fail
              refine pureT (num_is Hg0.out _) ?_
              go_wp2_with fail
              go_ret
              exact ⟨ret_bool HE.out.symm, HB1.out⟩
            · have Hg0 := Lib.hid hg0
              cases hg1 : rng g1 0 1
              · have Hg1 := Lib.hid hg1
                have HE : Hid (cursorB ⟨row, col, true, ⟨fg, bg, fl⟩, g0, g1, sh, org⟩ m n = false) := Lib.hid (by simp [cursorB, hrow, hcol, hw, hattr, hg0, hg1])
                go_enter Tryz.func58, Tryz.ntmps58
                go_wp2_with fail
                refine pureT (num_is Hrow.out _) ?_
                go_wp2_with fail
                refine pureT (num_is Hcol.out _) ?_
                go_wp2_with fail
                refine (attr_at ⟨fg, bg, fl⟩ _ Hattr.out (w.alloc (.cells #[.int .i64 row, .int .i64 col, .bool true, .int .i64 fg, .int .i64 bg, .int .i64 fl, .int .i64 g0, .int .i64 g1, .int .i64 sh, .bool org] 33))).mono ?_; rintro e w1 ⟨rfl, hb1⟩
                have HB1 : Hid (Below w.heap.size w w1) := Lib.hid (HB.out.trans (hb1.mono HB.out.size))
                have HX : Hid (w1.heap[w.heap.size]? = some (.cells #[.int .i64 row, .int .i64 col, .bool true, .int .i64 fg, .int .i64 bg, .int .i64 fl, .int .i64 g0, .int .i64 g1, .int .i64 sh, .bool org] 33)) := Lib.hid (Blk.kept (heap_alloc_new _ _) hb1)
                have x6 : w1.cell? ⟨w.heap.size, 6, none⟩ = some (.int .i64 g0) := Blk.cell HX.out 6
                have x7 : w1.cell? ⟨w.heap.size, 7, none⟩ = some (.int .i64 g1) := Blk.cell HX.out 7
                have x8 : w1.cell? ⟨w.heap.size, 8, none⟩ = some (.int .i64 sh) := Blk.cell HX.out 8
                clear hb1
                go_wp2_with fail
                refine pureT (num_is Hg0.out _) ?_
                go_wp2_with fail
                refine pureT (num_is Hg1.out _) ?_
                go_wp2_with fail
                go_ret
                exact ⟨ret_bool HE.out.symm, HB1.out⟩
              · have Hg1 := Lib.hid hg1
                cases hsh : rng sh 0 1
                · have Hsh := Lib.hid hsh
                  have HE : Hid (cursorB ⟨row, col, true, ⟨fg, bg, fl⟩, g0, g1, sh, org⟩ m n = false) := Lib.hid (by simp [cursorB, hrow, hcol, hw, hattr, hg0, hg1, hsh])
                  go_enter Tryz.func58, Tryz.ntmps58
                  go_wp2_with fail
                  refine pureT (num_is Hrow.out _) ?_
                  go_wp2_with fail
                  refine pureT (num_is Hcol.out _) ?_
                  go_wp2_with fail
                  refine (attr_at ⟨fg, bg, fl⟩ _ Hattr.out (w.alloc (.cells #[.int .i64 row, .int .i64 col, .bool true, .int .i64 fg, .int .i64 bg, .int .i64 fl, .int .i64 g0, .int .i64 g1, .int .i64 sh, .bool org] 33))).mono ?_; rintro e w1 ⟨rfl, hb1⟩
                  have HB1 : Hid (Below w.heap.size w w1) := Lib.hid (HB.out.trans (hb1.mono HB.out.size))
                  have HX : Hid (w1.heap[w.heap.size]? = some (.cells #[.int .i64 row, .int .i64 col, .bool true, .int .i64 fg, .int .i64 bg, .int .i64 fl, .int .i64 g0, .int .i64 g1, .int .i64 sh, .bool org] 33)) := Lib.hid (Blk.kept (heap_alloc_new _ _) hb1)
                  have x6 : w1.cell? ⟨w.heap.size, 6, none⟩ = some (.int .i64 g0) := Blk.cell HX.out 6
                  have x7 : w1.cell? ⟨w.heap.size, 7, none⟩ = some (.int .i64 g1) := Blk.cell HX.out 7
                  have x8 : w1.cell? ⟨w.heap.size, 8, none⟩ = some (.int .i64 sh) := Blk.cell HX.out 8
                  clear hb1
                  go_wp2_with fail
                  refine pureT (num_is Hg0.out _) ?_
                  go_wp2_with fail
                  refine pureT (num_is Hg1.out _) ?_
                  go_wp2_with fail
                  refine pureT (num_is Hsh.out _) ?_
                  go_wp2_with fail
                  go_ret
                  exact ⟨ret_bool HE.out.symm, HB1.out⟩
                · have Hsh := Lib.hid hsh
                  have HE : Hid (cursorB ⟨row, col, true, ⟨fg, bg, fl⟩, g0, g1, sh, org⟩ m n = true) := Lib.hid (by simp [cursorB, hrow, hcol, hw, hattr, hg0, hg1, hsh])
                  go_enter Tryz.func58, Tryz.ntmps58
                  go_wp2_with fail
                  refine pureT (num_is Hrow.out _) ?_
                  go_wp2_with fail
                  refine pureT (num_is Hcol.out _) ?_
                  go_wp2_with fail
                  refine (attr_at ⟨fg, bg, fl⟩ _ Hattr.out (w.alloc (.cells #[.int .i64 row, .int .i64 col, .bool true, .int .i64 fg, .int .i64 bg, .int .i64 fl, .int .i64 g0, .int .i64 g1, .int .i64 sh, .bool org] 33))).mono ?_; rintro e w1 ⟨rfl, hb1⟩
                  have HB1 : Hid (Below w.heap.size w w1) := Lib.hid (HB.out.trans (hb1.mono HB.out.size))
                  have HX : Hid (w1.heap[w.heap.size]? = some (.cells #[.int .i64 row, .int .i64 col, .bool true, .int .i64 fg, .int .i64 bg, .int .i64 fl, .int .i64 g0, .int .i64 g1, .int .i64 sh, .bool org] 33)) := Lib.hid (Blk.kept (heap_alloc_new _ _) hb1)
                  have x6 : w1.cell? ⟨w.heap.size, 6, none⟩ = some (.int .i64 g0) := Blk.cell HX.out 6
                  have x7 : w1.cell? ⟨w.heap.size, 7, none⟩ = some (.int .i64 g1) := Blk.cell HX.out 7
                  have x8 : w1.cell? ⟨w.heap.size, 8, none⟩ = some (.int .i64 sh) := Blk.cell HX.out 8
                  clear hb1
                  go_wp2_with fail
                  refine pureT (num_is Hg0.out _) ?_
                  go_wp2_with fail
                  refine pureT (num_is Hg1.out _) ?_
                  go_wp2_with fail
                  refine pureT (num_is Hsh.out _) ?_
                  go_wp2_with fail
                  go_ret
                  exact ⟨ret_bool HE.out.symm, HB1.out⟩
end Scr
end
end Go.Proofs.YtceaoadlhdgnmaaGreatDoor
