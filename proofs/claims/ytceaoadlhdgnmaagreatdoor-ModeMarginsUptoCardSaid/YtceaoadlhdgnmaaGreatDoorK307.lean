/- Joined texts: MdRefM. -/
import Derived.Test.YtceaoadlhdgnmaaGreatDoorK303
import Derived.Deep.RegionLaw
import Derived.BigRegion
section
/- Margins: the page's. -/
namespace Go.Proofs.YtceaoadlhdgnmaaGreatDoor
set_option maxRecDepth 100000
open Go.RowKit
namespace Scr
open Go.Proofs.YtceaoadlhdgnmaaGreatDoor.Row Wid

set_option maxHeartbeats 3200000 in
theorem refMarg_n0 (s : S) (x y z : Value) (n m : Int) (w : World) (h : In w s x y z) (hok : Ok s) (hm : m ≤ 0) (hn9 : n ≤ 9999) (hc : ¬ max n 1 < s.main.rows) :
    Calls Tryz.prog 25 #[sv s x y z, .int .i64 n, .int .i64 m] w fun e w' => ∃ x' y' z', e = .returned (sv (s) x' y' z') ∧ Own w' w.heap.size (s) x' y' z' ∧ Below w.heap.size w w' := by
  obtain ⟨N, hN⟩ : ∃ N, max n 1 = N := ⟨_, rfl⟩
  have hN2 : max 1 n = N := by omega
  have HN1 : Hid (N ≤ 9999 ∧ 1 ≤ N) := Lib.hid (by omega)
  have HROW : Hid (s.main.rows ≤ 40) := Lib.hid hok.facts.r40
  rw [hN] at hc
  clear hN hn9
  have HI := Lib.hid h
  have H0 := Lib.hid (Rz.start w s x y z)
  have HL := Lib.hid hok.lens
  have HOK := Lib.hid hok
  have cr0 : ((w.alloc (.cells (sarr s x y z) 36)).alloc (.cells zarr 36)).cell? ⟨w.heap.size, 0, none⟩ = some (.int .i64 s.main.rows) := H0.out.b0.cell 0
  clear h hok
  go_enter Tryz.func25, Tryz.ntmps25
  go_wp2_with (first
    | (refine wp_allocS1 (w := w) rfl rfl ?_)
    | (refine wp_loadS (b := w.heap.size) (s := s) rfl rfl rfl H0.out.b0 ?_))
  refine (copyScreen_any s x y z _ (HI.out.kept H0.out.bel) HL.out).mono ?_; rintro e w1 ⟨x1, y1, z1, rfl, ho, hb⟩
  have H1 := Lib.hid (H0.out.kept hb)
  have HO1 := Lib.hid (ho.low H0.out.up)
  clear ho hb H0 HI cr0
  go_upto_region 5 with (refine wp_storeS_then (b := w.heap.size) (A := sarr s x1 y1 z1) (T := Pb w s x1 y1 z1) rfl rfl rfl rfl rfl HO1.out.in_.one H1.out.b0 rfl (fun _ k => Pb.start H1.out HO1.out k) ?_; intro w2 H2)
  go_simp
  change Code.wp _ _ _ _ w2
  clear H1 HO1
  have cr : w2.cell? ⟨w.heap.size, 0, none⟩ = some (.int .i64 s.main.rows) := H2.out.pn.box.cell 0
  go_wp2_with (first
    | (refine wp_loadS (b := w.heap.size) (s := s) rfl rfl rfl H2.out.pn.box ?_)
    | (refine wp_storeS (b := w.heap.size + 1) rfl rfl rfl rfl rfl H2.out.pn.own.in_.one H2.out.b1 rfl ?_; intro w9 h9))
  refine bodyPost_ret (ret1S rfl rfl h9.box) rfl ?_
  have hoo : Own w9 w.heap.size (s) x1 y1 z1 := Own.low (h9.own H2.out.pn.own (show w.heap.size + 1 < w.heap.size + 2 by omega)) (show w.heap.size ≤ w.heap.size + 2 by omega)
  exact ⟨_, _, _, rfl, hoo, h9.below _ _ (by omega) H2.out.bel⟩
set_option maxHeartbeats 3200000 in
theorem refMarg_n2 (s : S) (x y z : Value) (n m : Int) (w : World) (h : In w s x y z) (hok : Ok s) (hm : m ≤ 0) (hn9 : n ≤ 9999) (hc : max n 1 < s.main.rows) :
    Calls Tryz.prog 25 #[sv s x y z, .int .i64 n, .int .i64 m] w fun e w' => ∃ x' y' z', e = .returned (sv (moveS (botS (topS s (max n 1 - 1)) (s.main.rows - 1)) 72 1 1) x' y' z') ∧ Own w' w.heap.size (moveS (botS (topS s (max n 1 - 1)) (s.main.rows - 1)) 72 1 1) x' y' z' ∧ Below w.heap.size w w' := by
  obtain ⟨N, hN⟩ : ∃ N, max n 1 = N := ⟨_, rfl⟩
  have hN2 : max 1 n = N := by omega
  have HN1 : Hid (N ≤ 9999 ∧ 1 ≤ N) := Lib.hid (by omega)
  have HROW : Hid (s.main.rows ≤ 40) := Lib.hid hok.facts.r40
  rw [hN] at hc
  rw [hN]
  clear hN hn9
  have HI := Lib.hid h
  have H0 := Lib.hid (Rz.start w s x y z)
  have HL := Lib.hid hok.lens
  have HOK := Lib.hid hok
  have cr0 : ((w.alloc (.cells (sarr s x y z) 36)).alloc (.cells zarr 36)).cell? ⟨w.heap.size, 0, none⟩ = some (.int .i64 s.main.rows) := H0.out.b0.cell 0
  clear h hok
  go_enter Tryz.func25, Tryz.ntmps25
  go_wp2_with (first
    | (refine wp_allocS1 (w := w) rfl rfl ?_)
    | (refine wp_loadS (b := w.heap.size) (s := s) rfl rfl rfl H0.out.b0 ?_))
  refine (copyScreen_any s x y z _ (HI.out.kept H0.out.bel) HL.out).mono ?_; rintro e w1 ⟨x1, y1, z1, rfl, ho, hb⟩
  have H1 := Lib.hid (H0.out.kept hb)
  have HO1 := Lib.hid (ho.low H0.out.up)
  clear ho hb H0 HI cr0
  go_upto_region 5 with (refine wp_storeS_then (b := w.heap.size) (A := sarr s x1 y1 z1) (T := Pb w s x1 y1 z1) rfl rfl rfl rfl rfl HO1.out.in_.one H1.out.b0 rfl (fun _ k => Pb.start H1.out HO1.out k) ?_; intro w2 H2)
  go_simp
  change Code.wp _ _ _ _ w2
  clear H1 HO1
  have cr : w2.cell? ⟨w.heap.size, 0, none⟩ = some (.int .i64 s.main.rows) := H2.out.pn.box.cell 0
  have hw1 : IntKind.i64.wrap (N - 1) = N - 1 := by have := HN1.out; rw [IntKind.wrap_i64]; omega
  have hw2 : IntKind.i64.wrap (s.main.rows - 1) = s.main.rows - 1 := by have := HROW.out; have := HN1.out; rw [IntKind.wrap_i64]; omega
  have c37 : w2.cell? ⟨w.heap.size, 37, none⟩ = some (.int .i64 s.top) := H2.out.pn.box.cell 37
  have c38 : w2.cell? ⟨w.heap.size, 38, none⟩ = some (.int .i64 s.bottom) := H2.out.pn.box.cell 38
  have fq : ∀ j, w2.frozen? ⟨w.heap.size, j, none⟩ = false := H2.out.pn.box.free
  go_upto_region 8 with (fail)
  change Code.wp _ _ _ _ ((w2.setCell ⟨w.heap.size, 37, none⟩ (.int .i64 (N - 1))).setCell ⟨w.heap.size, 38, none⟩ (.int .i64 (s.main.rows - 1)))
  have H3 := Lib.hid (H2.out.cell2A (N - 1) (s.main.rows - 1))
  have HOK3 : Hid (Ok (botS (topS s (N - 1)) (s.main.rows - 1))) := Lib.hid (tops_ok HOK.out (t := N - 1) (b := s.main.rows - 1) (by have := HN1.out; omega) (by omega) (by omega))
  clear cr c37 c38 fq H2
  generalize (w2.setCell ⟨w.heap.size, 37, none⟩ (.int .i64 (N - 1))).setCell ⟨w.heap.size, 38, none⟩ (.int .i64 (s.main.rows - 1)) = w3 at H3 ⊢
  go_wp2_with (refine wp_loadS (b := w.heap.size) (s := botS (topS s (N - 1)) (s.main.rows - 1)) rfl rfl rfl H3.out.pn.box ?_)
  refine (refHome_any (botS (topS s (N - 1)) (s.main.rows - 1)) x1 y1 z1 w3 H3.out.pn.own.in_ (HOK3.out)).mono ?_; rintro e w8 ⟨x8, y8, z8, rfl, ho, hb⟩
  have H8 := Lib.hid (H3.out.kept hb)
  have HO8 := Lib.hid (ho.low H3.out.pn.up)
  clear ho hb H3
  go_wp2_with (refine wp_storeS (b := w.heap.size + 1) rfl rfl rfl rfl rfl HO8.out.in_.one H8.out.b1 rfl ?_; intro w9 h9)
  refine bodyPost_ret (ret1S rfl rfl h9.box) rfl ?_
  exact ⟨_, _, _, rfl, Own.low (h9.own HO8.out (by omega)) (by omega), h9.below _ _ (by omega) H8.out.bel⟩
set_option maxHeartbeats 3200000 in
theorem refMarg_m0 (s : S) (x y z : Value) (n m : Int) (w : World) (h : In w s x y z) (hok : Ok s) (hm : ¬ m ≤ 0) (hn9 : n ≤ 9999) (hm9 : m ≤ 9999) (hc : ¬ max n 1 < m) :
    Calls Tryz.prog 25 #[sv s x y z, .int .i64 n, .int .i64 m] w fun e w' => ∃ x' y' z', e = .returned (sv (s) x' y' z') ∧ Own w' w.heap.size (s) x' y' z' ∧ Below w.heap.size w w' := by
  obtain ⟨N, hN⟩ : ∃ N, max n 1 = N := ⟨_, rfl⟩
  have hN2 : max 1 n = N := by omega
  have HN1 : Hid (N ≤ 9999 ∧ 1 ≤ N) := Lib.hid (by omega)
  have HROW : Hid (s.main.rows ≤ 40) := Lib.hid hok.facts.r40
  rw [hN] at hc
  clear hN hn9
  have HI := Lib.hid h
  have H0 := Lib.hid (Rz.start w s x y z)
  have HL := Lib.hid hok.lens
  have HOK := Lib.hid hok
  have cr0 : ((w.alloc (.cells (sarr s x y z) 36)).alloc (.cells zarr 36)).cell? ⟨w.heap.size, 0, none⟩ = some (.int .i64 s.main.rows) := H0.out.b0.cell 0
  clear h hok
  go_enter Tryz.func25, Tryz.ntmps25
  go_wp2_with (first
    | (refine wp_allocS1 (w := w) rfl rfl ?_)
    | (refine wp_loadS (b := w.heap.size) (s := s) rfl rfl rfl H0.out.b0 ?_))
  refine (copyScreen_any s x y z _ (HI.out.kept H0.out.bel) HL.out).mono ?_; rintro e w1 ⟨x1, y1, z1, rfl, ho, hb⟩
  have H1 := Lib.hid (H0.out.kept hb)
  have HO1 := Lib.hid (ho.low H0.out.up)
  clear ho hb H0 HI cr0
  go_upto_region 5 with (refine wp_storeS_then (b := w.heap.size) (A := sarr s x1 y1 z1) (T := Pb w s x1 y1 z1) rfl rfl rfl rfl rfl HO1.out.in_.one H1.out.b0 rfl (fun _ k => Pb.start H1.out HO1.out k) ?_; intro w2 H2)
  go_simp
  change Code.wp _ _ _ _ w2
  clear H1 HO1
  have cr : w2.cell? ⟨w.heap.size, 0, none⟩ = some (.int .i64 s.main.rows) := H2.out.pn.box.cell 0
  go_wp2_with (first
    | (refine wp_loadS (b := w.heap.size) (s := s) rfl rfl rfl H2.out.pn.box ?_)
    | (refine wp_storeS (b := w.heap.size + 1) rfl rfl rfl rfl rfl H2.out.pn.own.in_.one H2.out.b1 rfl ?_; intro w9 h9))
  refine bodyPost_ret (ret1S rfl rfl h9.box) rfl ?_
  have hoo : Own w9 w.heap.size (s) x1 y1 z1 := Own.low (h9.own H2.out.pn.own (show w.heap.size + 1 < w.heap.size + 2 by omega)) (show w.heap.size ≤ w.heap.size + 2 by omega)
  exact ⟨_, _, _, rfl, hoo, h9.below _ _ (by omega) H2.out.bel⟩
set_option maxHeartbeats 3200000 in
theorem refMarg_m1 (s : S) (x y z : Value) (n m : Int) (w : World) (h : In w s x y z) (hok : Ok s) (hm : ¬ m ≤ 0) (hn9 : n ≤ 9999) (hm9 : m ≤ 9999) (hc : max n 1 < m) (hr : ¬ m ≤ s.main.rows) :
    Calls Tryz.prog 25 #[sv s x y z, .int .i64 n, .int .i64 m] w fun e w' => ∃ x' y' z', e = .returned (sv (s) x' y' z') ∧ Own w' w.heap.size (s) x' y' z' ∧ Below w.heap.size w w' := by
  obtain ⟨N, hN⟩ : ∃ N, max n 1 = N := ⟨_, rfl⟩
  have hN2 : max 1 n = N := by omega
  have HN1 : Hid (N ≤ 9999 ∧ 1 ≤ N) := Lib.hid (by omega)
  have HROW : Hid (s.main.rows ≤ 40) := Lib.hid hok.facts.r40
  rw [hN] at hc
  clear hN hn9
  have HI := Lib.hid h
  have H0 := Lib.hid (Rz.start w s x y z)
  have HL := Lib.hid hok.lens
  have HOK := Lib.hid hok
  have cr0 : ((w.alloc (.cells (sarr s x y z) 36)).alloc (.cells zarr 36)).cell? ⟨w.heap.size, 0, none⟩ = some (.int .i64 s.main.rows) := H0.out.b0.cell 0
  clear h hok
  go_enter Tryz.func25, Tryz.ntmps25
  go_wp2_with (first
    | (refine wp_allocS1 (w := w) rfl rfl ?_)
    | (refine wp_loadS (b := w.heap.size) (s := s) rfl rfl rfl H0.out.b0 ?_))
  refine (copyScreen_any s x y z _ (HI.out.kept H0.out.bel) HL.out).mono ?_; rintro e w1 ⟨x1, y1, z1, rfl, ho, hb⟩
  have H1 := Lib.hid (H0.out.kept hb)
  have HO1 := Lib.hid (ho.low H0.out.up)
  clear ho hb H0 HI cr0
  go_upto_region 5 with (refine wp_storeS_then (b := w.heap.size) (A := sarr s x1 y1 z1) (T := Pb w s x1 y1 z1) rfl rfl rfl rfl rfl HO1.out.in_.one H1.out.b0 rfl (fun _ k => Pb.start H1.out HO1.out k) ?_; intro w2 H2)
  go_simp
  change Code.wp _ _ _ _ w2
  clear H1 HO1
  have cr : w2.cell? ⟨w.heap.size, 0, none⟩ = some (.int .i64 s.main.rows) := H2.out.pn.box.cell 0
  go_wp2_with (first
    | (refine wp_loadS (b := w.heap.size) (s := s) rfl rfl rfl H2.out.pn.box ?_)
    | (refine wp_storeS (b := w.heap.size + 1) rfl rfl rfl rfl rfl H2.out.pn.own.in_.one H2.out.b1 rfl ?_; intro w9 h9))
  refine bodyPost_ret (ret1S rfl rfl h9.box) rfl ?_
  have hoo : Own w9 w.heap.size (s) x1 y1 z1 := Own.low (h9.own H2.out.pn.own (show w.heap.size + 1 < w.heap.size + 2 by omega)) (show w.heap.size ≤ w.heap.size + 2 by omega)
  exact ⟨_, _, _, rfl, hoo, h9.below _ _ (by omega) H2.out.bel⟩
set_option maxHeartbeats 3200000 in
theorem refMarg_m2 (s : S) (x y z : Value) (n m : Int) (w : World) (h : In w s x y z) (hok : Ok s) (hm : ¬ m ≤ 0) (hn9 : n ≤ 9999) (hm9 : m ≤ 9999) (hc : max n 1 < m) (hr : m ≤ s.main.rows) :
    Calls Tryz.prog 25 #[sv s x y z, .int .i64 n, .int .i64 m] w fun e w' => ∃ x' y' z', e = .returned (sv (moveS (botS (topS s (max n 1 - 1)) (m - 1)) 72 1 1) x' y' z') ∧ Own w' w.heap.size (moveS (botS (topS s (max n 1 - 1)) (m - 1)) 72 1 1) x' y' z' ∧ Below w.heap.size w w' := by
  obtain ⟨N, hN⟩ : ∃ N, max n 1 = N := ⟨_, rfl⟩
  have hN2 : max 1 n = N := by omega
  have HN1 : Hid (N ≤ 9999 ∧ 1 ≤ N) := Lib.hid (by omega)
  have HROW : Hid (s.main.rows ≤ 40) := Lib.hid hok.facts.r40
  rw [hN] at hc
  rw [hN]
  clear hN hn9
  have HI := Lib.hid h
  have H0 := Lib.hid (Rz.start w s x y z)
  have HL := Lib.hid hok.lens
  have HOK := Lib.hid hok
  have cr0 : ((w.alloc (.cells (sarr s x y z) 36)).alloc (.cells zarr 36)).cell? ⟨w.heap.size, 0, none⟩ = some (.int .i64 s.main.rows) := H0.out.b0.cell 0
  clear h hok
  go_enter Tryz.func25, Tryz.ntmps25
  go_wp2_with (first
    | (refine wp_allocS1 (w := w) rfl rfl ?_)
    | (refine wp_loadS (b := w.heap.size) (s := s) rfl rfl rfl H0.out.b0 ?_))
  refine (copyScreen_any s x y z _ (HI.out.kept H0.out.bel) HL.out).mono ?_; rintro e w1 ⟨x1, y1, z1, rfl, ho, hb⟩
  have H1 := Lib.hid (H0.out.kept hb)
  have HO1 := Lib.hid (ho.low H0.out.up)
  clear ho hb H0 HI cr0
  go_upto_region 5 with (refine wp_storeS_then (b := w.heap.size) (A := sarr s x1 y1 z1) (T := Pb w s x1 y1 z1) rfl rfl rfl rfl rfl HO1.out.in_.one H1.out.b0 rfl (fun _ k => Pb.start H1.out HO1.out k) ?_; intro w2 H2)
  go_simp
  change Code.wp _ _ _ _ w2
  clear H1 HO1
  have cr : w2.cell? ⟨w.heap.size, 0, none⟩ = some (.int .i64 s.main.rows) := H2.out.pn.box.cell 0
  have hw1 : IntKind.i64.wrap (N - 1) = N - 1 := by have := HN1.out; rw [IntKind.wrap_i64]; omega
  have hw2 : IntKind.i64.wrap (m - 1) = m - 1 := by have := HROW.out; have := HN1.out; rw [IntKind.wrap_i64]; omega
  have c37 : w2.cell? ⟨w.heap.size, 37, none⟩ = some (.int .i64 s.top) := H2.out.pn.box.cell 37
  have c38 : w2.cell? ⟨w.heap.size, 38, none⟩ = some (.int .i64 s.bottom) := H2.out.pn.box.cell 38
  have fq : ∀ j, w2.frozen? ⟨w.heap.size, j, none⟩ = false := H2.out.pn.box.free
  go_upto_region 8 with (fail)
  change Code.wp _ _ _ _ ((w2.setCell ⟨w.heap.size, 37, none⟩ (.int .i64 (N - 1))).setCell ⟨w.heap.size, 38, none⟩ (.int .i64 (m - 1)))
  have H3 := Lib.hid (H2.out.cell2A (N - 1) (m - 1))
  have HOK3 : Hid (Ok (botS (topS s (N - 1)) (m - 1))) := Lib.hid (tops_ok HOK.out (t := N - 1) (b := m - 1) (by have := HN1.out; omega) (by omega) (by omega))
  clear cr c37 c38 fq H2
  generalize (w2.setCell ⟨w.heap.size, 37, none⟩ (.int .i64 (N - 1))).setCell ⟨w.heap.size, 38, none⟩ (.int .i64 (m - 1)) = w3 at H3 ⊢
  go_wp2_with (refine wp_loadS (b := w.heap.size) (s := botS (topS s (N - 1)) (m - 1)) rfl rfl rfl H3.out.pn.box ?_)
  refine (refHome_any (botS (topS s (N - 1)) (m - 1)) x1 y1 z1 w3 H3.out.pn.own.in_ (HOK3.out)).mono ?_; rintro e w8 ⟨x8, y8, z8, rfl, ho, hb⟩
  have H8 := Lib.hid (H3.out.kept hb)
  have HO8 := Lib.hid (ho.low H3.out.pn.up)
  clear ho hb H3
  go_wp2_with (refine wp_storeS (b := w.heap.size + 1) rfl rfl rfl rfl rfl HO8.out.in_.one H8.out.b1 rfl ?_; intro w9 h9)
  refine bodyPost_ret (ret1S rfl rfl h9.box) rfl ?_
  exact ⟨_, _, _, rfl, Own.low (h9.own HO8.out (by omega)) (by omega), h9.below _ _ (by omega) H8.out.bel⟩
theorem refMargins_any (s : S) (x y z : Value) (n m : Int) (w : World) (h : In w s x y z) (hok : Ok s) (hn9 : n ≤ 9999) (hm9 : m ≤ 9999) :
    Calls Tryz.prog 25 #[sv s x y z, .int .i64 n, .int .i64 m] w fun e w' => ∃ x' y' z', e = .returned (sv (marginsS s n m) x' y' z') ∧ Own w' w.heap.size (marginsS s n m) x' y' z' ∧ Below w.heap.size w w' := by
  unfold marginsS
  by_cases hm : m ≤ 0
  · rw [if_pos hm]
    by_cases hc : max n 1 < s.main.rows
    · rw [if_pos ⟨hc, Int.le_refl _⟩]
      exact refMarg_n2 s x y z n m w h hok hm hn9 hc
    · rw [if_neg (fun q => hc q.1)]
      exact refMarg_n0 s x y z n m w h hok hm hn9 hc
  · rw [if_neg hm]
    by_cases hc : max n 1 < m
    · by_cases hr : m ≤ s.main.rows
      · rw [if_pos ⟨hc, hr⟩]
        exact refMarg_m2 s x y z n m w h hok hm hn9 hm9 hc hr
      · rw [if_neg (fun q => hr q.2)]
        exact refMarg_m1 s x y z n m w h hok hm hn9 hm9 hc hr
    · rw [if_neg (fun q => hc q.1)]
      exact refMarg_m0 s x y z n m w h hok hm hn9 hm9 hc
end Scr
end Go.Proofs.YtceaoadlhdgnmaaGreatDoor
end
