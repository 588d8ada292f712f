/- Joined texts: ScrCopy. -/
import Derived.Test.YtceaoadlhdgnmaaGreatDoorM12
import Derived.Test.YtceaoadlhdgnmaaGreatDoorM23
namespace Go.Proofs.YtceaoadlhdgnmaaGreatDoor
set_option maxRecDepth 100000
section
open Go.RowKit
namespace Scr
open Go.Proofs.YtceaoadlhdgnmaaGreatDoor.Row
theorem wp_storeS_then {w : World} {ops : Array Oper} {rest : List Oper} {o : Oper} {a : Act} {Q : Exit → Act → World → Prop} {x y : Operand} {T : World → Prop} {b : Nat} {A old : Array Value} (hgd : Region.wanted o (yielded ops a.tmps) = true) (ho : o.op = .store 36 x y)
    (hx : a.eval x = .pointer (some ⟨b, 0, none⟩)) (hy : a.eval y = .agg A) (hA : A.size = 43) (hA1 : A.all (·.oneCell') = true) (hg : w.heap[b]? = some (.cells old 36 (0, 0))) (hold : old.size = 43)
    (hT : ∀ w', Sto w b A w' → T w') (k : ∀ w', Hid (T w') → wpList Tryz.prog ops Q rest (a.put o.dst undef) w') : wpList Tryz.prog ops Q (o :: rest) a w :=
  wp_storeS hgd ho hx hy hA hA1 hg hold fun w' h => k w' (Lib.hid (hT w' h))
structure Cp (w0 : World) (s : S) (x y z x' y' z' : Value) (w : World) : Prop where
  bel : Below w0.heap.size w0 w
  b0 : SBox w w0.heap.size s x y z
  b1 : w.heap[w0.heap.size + 1]? = some (.cells zarr 36 (0, 0))
  b2 : SBox w (w0.heap.size + 2) s x' y' z'
theorem Cp.kept {w0 w w' : World} {s : S} {x y z x' y' z' : Value} (h : Cp w0 s x y z x' y' z' w) (hb : Below w.heap.size w w') : Cp w0 s x y z x' y' z' w' :=
  ⟨h.bel.trans (hb.mono h.bel.size), h.b0.kept hb, Blk.kept h.b1 hb, h.b2.kept hb⟩
theorem Cp.up {w0 w : World} {s : S} {x y z x' y' z' : Value} (h : Cp w0 s x y z x' y' z' w) : w0.heap.size + 3 ≤ w.heap.size := Blk.lt h.b2
theorem Cp.start {w : World} {s : S} {x y z : Value} (w1 : World) (h1 : Sto (((w.alloc (.cells (sarr s x y z) 36)).alloc (.cells zarr 36)).alloc (.cells zarr 36)) (w.heap.size + 2) (sarr s x y z) w1) : Cp w s x y z x y z w1 := by
  have hb : Below w.heap.size w w1 := h1.below _ _ (by omega) ((((Below.refl _ _).alloc (Nat.le_refl _) _).alloc (by simp) _).alloc (by simp; omega) _)
  refine ⟨hb, ?_, ?_, h1.box⟩
  · exact (h1.other _ (by omega)).trans (old_alloc (heap_alloc2_old _ _ _) _)
  · exact (h1.other _ (by omega)).trans (old_alloc (heap_alloc2_new _ _ _) _)
theorem Cp.main {w0 w : World} {s : S} {x y z x' y' z' : Value} (h : Cp w0 s x y z x' y' z' w) (v : Value) : Cp w0 s x y z v y' z' (gput w (w0.heap.size + 2) s.main.rows s.main.cols v) :=
  ⟨gput_below h.bel (by omega) _ _ v, gput_other h.b0 (by omega) _ _ _, gput_other h.b1 (by omega) _ _ _, h.b2.putMain s.main.rows s.main.cols s.main.cells v⟩
theorem Cp.other {w0 w : World} {s : S} {x y z x' y' z' : Value} (h : Cp w0 s x y z x' y' z' w) (v : Value) : Cp w0 s x y z x' v z' (oput w (w0.heap.size + 2) s.other.rows s.other.cols v) :=
  ⟨oput_below h.bel (by omega) _ _ v, oput_other h.b0 (by omega) _ _ _, oput_other h.b1 (by omega) _ _ _, h.b2.putOther s.other.rows s.other.cols s.other.cells v⟩
theorem Cp.tabs {w0 w : World} {s : S} {x y z x' y' z' : Value} (h : Cp w0 s x y z x' y' z' w) (v : Value) : Cp w0 s x y z x' y' v (w.setCell ⟨w0.heap.size + 2, 39, none⟩ v) :=
  ⟨h.bel.setCell (show w0.heap.size ≤ w0.heap.size + 2 by omega) _, Blk.other h.b0 (by omega) _ _, Blk.other h.b1 (by omega) _ _, h.b2.putTabs s.tabs v⟩
set_option maxHeartbeats 1600000 in
theorem copyScreen_any (s : S) (x y z : Value) (w : World) (h : In w s x y z) (hl : s.main.cells.length ≤ 1000000 ∧ s.other.cells.length ≤ 1000000 ∧ s.tabs.length ≤ 1000000) :
    Calls Tryz.prog 16 #[sv s x y z] w fun e w' => ∃ x' y' z', e = .returned (sv s x' y' z') ∧ Own w' w.heap.size s x' y' z' ∧ Below w.heap.size w w' := by
  have HI := Lib.hid h
  have HL := Lib.hid hl
  clear h hl
  go_enter Tryz.func16, Tryz.ntmps16
  go_wp2_with (first
    | (refine wp_allocS2 (w := w) rfl rfl ?_)
    | (refine wp_allocS1 (w := w) rfl rfl ?_)
    | (refine wp_loadS (b := w.heap.size) (s := s) rfl rfl rfl (heap_alloc2_old _ _ _) ?_)
    | (refine wp_storeS_then (b := w.heap.size + 2) (T := Cp w s x y z x y z) rfl rfl rfl rfl rfl (HI.out.one) (new_alloc _ _ _ (by simp)) rfl Cp.start ?_; intro w1 H1; have c0 : ∀ j, w1.cell? ⟨w.heap.size, j, none⟩ = (sarr s x y z)[j]? := H1.out.b0.cell))
  refine (copyGrid_any s.main.rows s.main.cols s.main.cells x _ (HI.out.kept H1.out.bel).m.cs (by have := HL.out.1; omega)).mono ?_
  rintro e w2 ⟨v, rfl, ho, hb⟩
  obtain ⟨A2, c2, rfl, _⟩ := ho.rm.2
  have H2 := Lib.hid (H1.out.kept hb)
  have HU := Lib.hid H1.out.up
  have HM := Lib.hid (gput_own (ho.low HU.out) (show w.heap.size + 2 < w.heap.size + 3 by omega) s.main.rows s.main.cols (.slice A2 s.main.cells.length c2))
  have H3 := Lib.hid (H2.out.main (.slice A2 s.main.cells.length c2))
  clear H1 c0 hb ho
  have f2 : ∀ j, w2.frozen? ⟨w.heap.size + 2, j, none⟩ = false := H2.out.b2.free
  have c2' : ∀ j, w2.cell? ⟨w.heap.size + 2, j, none⟩ = (sarr s x y z)[j]? := H2.out.b2.cell
  have c0 : ∀ j, w2.cell? ⟨w.heap.size, j, none⟩ = (sarr s x y z)[j]? := H2.out.b0.cell
  go_wp2_with fail
  refine (copyGrid_any s.other.rows s.other.cols s.other.cells y (gput w2 (w.heap.size + 2) s.main.rows s.main.cols (.slice A2 s.main.cells.length c2)) (HI.out.kept H3.out.bel).o.cs (by have := HL.out.2.1; omega)).mono ?_
  rintro e w4 ⟨v, rfl, ho, hb⟩
  obtain ⟨A3, c3, rfl, _⟩ := ho.rm.2
  have H4 := Lib.hid (H3.out.kept hb)
  have HM4 := Lib.hid (oput_own (HM.out.kept hb) (show w.heap.size + 2 < w.heap.size + 3 by omega) s.other.rows s.other.cols (.slice A3 s.other.cells.length c3))
  have HO4 := Lib.hid (oput_own (ho.low H3.out.up) (show w.heap.size + 2 < w.heap.size + 3 by omega) s.other.rows s.other.cols (.slice A3 s.other.cells.length c3))
  have H5 := Lib.hid (H4.out.other (.slice A3 s.other.cells.length c3))
  clear H2 H3 HM c0 hb ho f2 c2' HU
  have f2 : ∀ j, w4.frozen? ⟨w.heap.size + 2, j, none⟩ = false := H4.out.b2.free
  have c2' : ∀ j, w4.cell? ⟨w.heap.size + 2, j, none⟩ = (sarr s (.slice A2 s.main.cells.length c2) y z)[j]? := H4.out.b2.cell
  have c0 : ∀ j, w4.cell? ⟨w.heap.size, j, none⟩ = (sarr s x y z)[j]? := H4.out.b0.cell
  go_wp2_with fail
  refine (Tab.copyBools_any s.tabs (oput w4 (w.heap.size + 2) s.other.rows s.other.cols (.slice A3 s.other.cells.length c3)) (HI.out.kept H5.out.bel).t (by have := HL.out.2.2; omega)).mono ?_
  rintro e w6 ⟨v, rfl, ho, hb⟩
  obtain ⟨A4, c4, rfl, _⟩ := ho.bl.room
  have H6 := Lib.hid (H5.out.kept hb)
  have HM6 := Lib.hid ((HM4.out.kept hb).set (show w.heap.size + 2 < w.heap.size + 3 by omega) 39 (.slice A4 s.tabs.length c4))
  have HO6 := Lib.hid ((HO4.out.kept hb).set (show w.heap.size + 2 < w.heap.size + 3 by omega) 39 (.slice A4 s.tabs.length c4))
  have HT6 := Lib.hid (ownB_set (ho.low H5.out.up) (show w.heap.size + 2 < w.heap.size + 3 by omega) 39 (.slice A4 s.tabs.length c4))
  have H7 := Lib.hid (H6.out.tabs (.slice A4 s.tabs.length c4))
  clear H4 H5 HM4 HO4 c0 hb ho f2 c2'
  have f2 : ∀ j, w6.frozen? ⟨w.heap.size + 2, j, none⟩ = false := H6.out.b2.free
  have c2' : ∀ j, w6.cell? ⟨w.heap.size + 2, j, none⟩ = (sarr s (.slice A2 s.main.cells.length c2) (.slice A3 s.other.cells.length c3) z)[j]? := H6.out.b2.cell
  go_wp2_with (first
    | (refine wp_loadS (b := w.heap.size + 2) (s := s) rfl rfl rfl H7.out.b2 ?_)
    | (refine wp_storeS (b := w.heap.size + 1) rfl rfl rfl rfl rfl (sarr_one rfl rfl rfl) H7.out.b1 rfl ?_; intro w8 h8))
  refine bodyPost_ret (ret1S rfl rfl h8.box) rfl ?_
  exact ⟨_, _, _, rfl, Own.low (h8.own ⟨HM6.out, HO6.out, HT6.out⟩ (by omega)) (by omega), h8.below _ _ (by omega) H7.out.bel⟩
end Scr
end
end Go.Proofs.YtceaoadlhdgnmaaGreatDoor
