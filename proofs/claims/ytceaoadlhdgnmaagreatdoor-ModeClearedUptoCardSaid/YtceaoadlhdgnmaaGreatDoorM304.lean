/- Joined texts: MdRefS. -/
import Derived.Test.YtceaoadlhdgnmaaGreatDoorM302
import Derived.Deep.RegionLaw
import Derived.Deep.CutRange
import Derived.Deep.DeepCutAuto
namespace Go.Proofs.YtceaoadlhdgnmaaGreatDoor
set_option maxRecDepth 100000
section
open Go.RowKit
namespace Scr
open Go.Proofs.YtceaoadlhdgnmaaGreatDoor.Row Wid
theorem save_sides (s : S) : (saveS s).main.rows = s.main.rows ∧ (saveS s).main.cols = s.main.cols := by
  unfold saveS; split <;> exact ⟨rfl, rfl⟩
set_option maxHeartbeats 3200000 in
theorem refSet_fff (s : S) (x y z : Value) (p : Bool) (n b : Int) (w : World) (h : In w s x y z) (hok : Ok s) (hb : bitOf p n = b) (h0 : ¬ b = 0) (h1 : ¬ b = 1) :
    Calls Tryz.prog 20 #[sv s x y z, .bool p, .int .i64 n, .bool false] w fun e w' => ∃ x' y' z', e = .returned (sv (putM s b false) x' y' z') ∧ Own w' w.heap.size (putM s b false) x' y' z' ∧ Below w.heap.size w w' := by
  have HE : Hid (putM s b false = putP s b false) := Lib.hid (by unfold putM; rw [if_neg (by simp [h1])]; rfl)
  rw [HE.out]
  have HBT := Lib.hid hb
  clear hb HE
  have h1b : (b == 1) = false := by rw [beq_eq_false_iff_ne]; exact h1
  have HI := Lib.hid h
  have H0 := Lib.hid (Rz.start w s x y z)
  have HL := Lib.hid hok.lens
  have HOK := Lib.hid hok
  clear h hok
  go_enter Tryz.func20, Tryz.ntmps20
  go_wp2_with (first
    | (refine wp_allocS1 (w := w) rfl rfl ?_)
    | (refine wp_loadS (b := w.heap.size) (s := s) rfl rfl rfl H0.out.b0 ?_))
  refine (copyScreen_any s x y z _ (HI.out.kept H0.out.bel) HL.out).mono ?_; rintro e w1 ⟨x1, y1, z1, rfl, ho, hb⟩
  have H1 := Lib.hid (H0.out.kept hb)
  have HO1 := Lib.hid (ho.low H0.out.up)
  clear ho hb H0 HI
  go_upto_region 2 with (refine wp_storeS_then (b := w.heap.size) (A := sarr s x1 y1 z1) (T := Pb w s x1 y1 z1) rfl rfl rfl rfl rfl HO1.out.in_.one H1.out.b0 rfl (fun _ k => Pb.start H1.out HO1.out k) ?_; intro w2 H2)
  go_simp
  change Code.wp _ _ _ _ w2
  clear H1 HO1
  go_wp2_with fail
  refine (refBit_any p n w2).mono ?_; rintro e w3 ⟨rfl, hb⟩
  have H3 := Lib.hid (H2.out.kept hb)
  clear hb H2
  rw [HBT.out]
  go_wp2_with fail
  refine (refPut_bit w s x1 y1 z1 b false w3 H3.out).mono ?_; rintro e w4 ⟨rfl, hp⟩
  have H4 := Lib.hid hp
  clear hp H3
  go_wp2_with (first
    | (refine wp_loadS (b := w.heap.size) (s := putP s b false) rfl rfl rfl H4.out.pn.box ?_)
    | (refine wp_storeS (b := w.heap.size + 1) rfl rfl rfl rfl rfl H4.out.pn.own.in_.one H4.out.b1 rfl ?_; intro w9 h9))
  refine bodyPost_ret (ret1S rfl rfl h9.box) rfl ?_
  have hoo : Own w9 w.heap.size (putP s b false) x1 y1 z1 := Own.low (h9.own H4.out.pn.own (show w.heap.size + 1 < w.heap.size + 2 by omega)) (show w.heap.size ≤ w.heap.size + 2 by omega)
  exact ⟨_, _, _, rfl, hoo, h9.below _ _ (by omega) H4.out.bel⟩
set_option maxHeartbeats 3200000 in
theorem refSet_fft (s : S) (x y z : Value) (p : Bool) (n b : Int) (w : World) (h : In w s x y z) (hok : Ok s) (hb : bitOf p n = b) (h0 : ¬ b = 0) (h1 : b = 1) :
    Calls Tryz.prog 20 #[sv s x y z, .bool p, .int .i64 n, .bool false] w fun e w' => ∃ x' y' z', e = .returned (sv (putM s b false) x' y' z') ∧ Own w' w.heap.size (putM s b false) x' y' z' ∧ Below w.heap.size w w' := by
  have HE : Hid (putM s b false = noWrap (putP s b false)) := Lib.hid (by unfold putM; rw [if_pos ⟨rfl, h1⟩]; rfl)
  rw [HE.out]
  have HBT := Lib.hid hb
  clear hb HE
  subst h1
  have HI := Lib.hid h
  have H0 := Lib.hid (Rz.start w s x y z)
  have HL := Lib.hid hok.lens
  have HOK := Lib.hid hok
  clear h hok
  go_enter Tryz.func20, Tryz.ntmps20
  go_wp2_with (first
    | (refine wp_allocS1 (w := w) rfl rfl ?_)
    | (refine wp_loadS (b := w.heap.size) (s := s) rfl rfl rfl H0.out.b0 ?_))
  refine (copyScreen_any s x y z _ (HI.out.kept H0.out.bel) HL.out).mono ?_; rintro e w1 ⟨x1, y1, z1, rfl, ho, hb⟩
  have H1 := Lib.hid (H0.out.kept hb)
  have HO1 := Lib.hid (ho.low H0.out.up)
  clear ho hb H0 HI
  go_upto_region 2 with (refine wp_storeS_then (b := w.heap.size) (A := sarr s x1 y1 z1) (T := Pb w s x1 y1 z1) rfl rfl rfl rfl rfl HO1.out.in_.one H1.out.b0 rfl (fun _ k => Pb.start H1.out HO1.out k) ?_; intro w2 H2)
  go_simp
  change Code.wp _ _ _ _ w2
  clear H1 HO1
  go_wp2_with fail
  refine (refBit_any p n w2).mono ?_; rintro e w3 ⟨rfl, hb⟩
  have H3 := Lib.hid (H2.out.kept hb)
  clear hb H2
  rw [HBT.out]
  go_wp2_with fail
  refine (refPut_bit w s x1 y1 z1 1 false w3 H3.out).mono ?_; rintro e w4 ⟨rfl, hp⟩
  have H4 := Lib.hid hp
  clear hp H3
  have c9 : w4.cell? ⟨w.heap.size, 9, none⟩ = some (.bool (putP s 1 false).cur.wrap) := H4.out.pn.box.cell 9
  have f9 : w4.frozen? ⟨w.heap.size, 9, none⟩ = false := H4.out.pn.box.free 9
  go_upto_region 7 with (fail)
  change Code.wp _ _ _ _ (w4.setCell ⟨w.heap.size, 9, none⟩ (.bool false))
  have H5 := Lib.hid H4.out.wrap
  clear c9 f9 H4
  generalize w4.setCell ⟨w.heap.size, 9, none⟩ (.bool false) = w5 at H5 ⊢
  go_wp2_with (first
    | (refine wp_loadS (b := w.heap.size) (s := noWrap (putP s 1 false)) rfl rfl rfl H5.out.pn.box ?_)
    | (refine wp_storeS (b := w.heap.size + 1) rfl rfl rfl rfl rfl H5.out.pn.own.in_.one H5.out.b1 rfl ?_; intro w9 h9))
  refine bodyPost_ret (ret1S rfl rfl h9.box) rfl ?_
  have hoo : Own w9 w.heap.size (noWrap (putP s 1 false)) x1 y1 z1 := Own.low (h9.own H5.out.pn.own (show w.heap.size + 1 < w.heap.size + 2 by omega)) (show w.heap.size ≤ w.heap.size + 2 by omega)
  exact ⟨_, _, _, rfl, hoo, h9.below _ _ (by omega) H5.out.bel⟩
set_option maxHeartbeats 3200000 in
theorem refSet_ftf (s : S) (x y z : Value) (p : Bool) (n b : Int) (w : World) (h : In w s x y z) (hok : Ok s) (hb : bitOf p n = b) (h0 : ¬ b = 0) (h1 : ¬ b = 1) :
    Calls Tryz.prog 20 #[sv s x y z, .bool p, .int .i64 n, .bool true] w fun e w' => ∃ x' y' z', e = .returned (sv (putM s b true) x' y' z') ∧ Own w' w.heap.size (putM s b true) x' y' z' ∧ Below w.heap.size w w' := by
  have HE : Hid (putM s b true = putP s b true) := Lib.hid (by unfold putM; rw [if_neg (by simp)]; rfl)
  rw [HE.out]
  have HBT := Lib.hid hb
  clear hb HE
  have h1b : (b == 1) = false := by rw [beq_eq_false_iff_ne]; exact h1
  have HI := Lib.hid h
  have H0 := Lib.hid (Rz.start w s x y z)
  have HL := Lib.hid hok.lens
  have HOK := Lib.hid hok
  clear h hok
  go_enter Tryz.func20, Tryz.ntmps20
  go_wp2_with (first
    | (refine wp_allocS1 (w := w) rfl rfl ?_)
    | (refine wp_loadS (b := w.heap.size) (s := s) rfl rfl rfl H0.out.b0 ?_))
  refine (copyScreen_any s x y z _ (HI.out.kept H0.out.bel) HL.out).mono ?_; rintro e w1 ⟨x1, y1, z1, rfl, ho, hb⟩
  have H1 := Lib.hid (H0.out.kept hb)
  have HO1 := Lib.hid (ho.low H0.out.up)
  clear ho hb H0 HI
  go_upto_region 2 with (refine wp_storeS_then (b := w.heap.size) (A := sarr s x1 y1 z1) (T := Pb w s x1 y1 z1) rfl rfl rfl rfl rfl HO1.out.in_.one H1.out.b0 rfl (fun _ k => Pb.start H1.out HO1.out k) ?_; intro w2 H2)
  go_simp
  change Code.wp _ _ _ _ w2
  clear H1 HO1
  go_wp2_with fail
  refine (refBit_any p n w2).mono ?_; rintro e w3 ⟨rfl, hb⟩
  have H3 := Lib.hid (H2.out.kept hb)
  clear hb H2
  rw [HBT.out]
  go_wp2_with fail
  refine (refPut_bit w s x1 y1 z1 b true w3 H3.out).mono ?_; rintro e w4 ⟨rfl, hp⟩
  have H4 := Lib.hid hp
  clear hp H3
  go_wp2_with (first
    | (refine wp_loadS (b := w.heap.size) (s := putP s b true) rfl rfl rfl H4.out.pn.box ?_)
    | (refine wp_storeS (b := w.heap.size + 1) rfl rfl rfl rfl rfl H4.out.pn.own.in_.one H4.out.b1 rfl ?_; intro w9 h9))
  refine bodyPost_ret (ret1S rfl rfl h9.box) rfl ?_
  have hoo : Own w9 w.heap.size (putP s b true) x1 y1 z1 := Own.low (h9.own H4.out.pn.own (show w.heap.size + 1 < w.heap.size + 2 by omega)) (show w.heap.size ≤ w.heap.size + 2 by omega)
  exact ⟨_, _, _, rfl, hoo, h9.below _ _ (by omega) H4.out.bel⟩
set_option maxHeartbeats 3200000 in
theorem refSet_ftt (s : S) (x y z : Value) (p : Bool) (n b : Int) (w : World) (h : In w s x y z) (hok : Ok s) (hb : bitOf p n = b) (h0 : ¬ b = 0) (h1 : b = 1) :
    Calls Tryz.prog 20 #[sv s x y z, .bool p, .int .i64 n, .bool true] w fun e w' => ∃ x' y' z', e = .returned (sv (putM s b true) x' y' z') ∧ Own w' w.heap.size (putM s b true) x' y' z' ∧ Below w.heap.size w w' := by
  have HE : Hid (putM s b true = putP s b true) := Lib.hid (by unfold putM; rw [if_neg (by simp)]; rfl)
  rw [HE.out]
  have HBT := Lib.hid hb
  clear hb HE
  subst h1
  have HI := Lib.hid h
  have H0 := Lib.hid (Rz.start w s x y z)
  have HL := Lib.hid hok.lens
  have HOK := Lib.hid hok
  clear h hok
  go_enter Tryz.func20, Tryz.ntmps20
  go_wp2_with (first
    | (refine wp_allocS1 (w := w) rfl rfl ?_)
    | (refine wp_loadS (b := w.heap.size) (s := s) rfl rfl rfl H0.out.b0 ?_))
  refine (copyScreen_any s x y z _ (HI.out.kept H0.out.bel) HL.out).mono ?_; rintro e w1 ⟨x1, y1, z1, rfl, ho, hb⟩
  have H1 := Lib.hid (H0.out.kept hb)
  have HO1 := Lib.hid (ho.low H0.out.up)
  clear ho hb H0 HI
  go_upto_region 2 with (refine wp_storeS_then (b := w.heap.size) (A := sarr s x1 y1 z1) (T := Pb w s x1 y1 z1) rfl rfl rfl rfl rfl HO1.out.in_.one H1.out.b0 rfl (fun _ k => Pb.start H1.out HO1.out k) ?_; intro w2 H2)
  go_simp
  change Code.wp _ _ _ _ w2
  clear H1 HO1
  go_wp2_with fail
  refine (refBit_any p n w2).mono ?_; rintro e w3 ⟨rfl, hb⟩
  have H3 := Lib.hid (H2.out.kept hb)
  clear hb H2
  rw [HBT.out]
  go_wp2_with fail
  refine (refPut_bit w s x1 y1 z1 1 true w3 H3.out).mono ?_; rintro e w4 ⟨rfl, hp⟩
  have H4 := Lib.hid hp
  clear hp H3
  go_wp2_with (first
    | (refine wp_loadS (b := w.heap.size) (s := putP s 1 true) rfl rfl rfl H4.out.pn.box ?_)
    | (refine wp_storeS (b := w.heap.size + 1) rfl rfl rfl rfl rfl H4.out.pn.own.in_.one H4.out.b1 rfl ?_; intro w9 h9))
  refine bodyPost_ret (ret1S rfl rfl h9.box) rfl ?_
  have hoo : Own w9 w.heap.size (putP s 1 true) x1 y1 z1 := Own.low (h9.own H4.out.pn.own (show w.heap.size + 1 < w.heap.size + 2 by omega)) (show w.heap.size ≤ w.heap.size + 2 by omega)
  exact ⟨_, _, _, rfl, hoo, h9.below _ _ (by omega) H4.out.bel⟩
set_option maxHeartbeats 3200000 in
theorem refSet_none (s : S) (x y z : Value) (n : Int) (on : Bool) (w : World) (h : In w s x y z) (hok : Ok s) (hb : bitOf false n = 0) :
    Calls Tryz.prog 20 #[sv s x y z, .bool false, .int .i64 n, .bool on] w fun e w' => ∃ x' y' z', e = .returned (sv (s) x' y' z') ∧ Own w' w.heap.size (s) x' y' z' ∧ Below w.heap.size w w' := by
  have HBT := Lib.hid hb
  clear hb
  have HI := Lib.hid h
  have H0 := Lib.hid (Rz.start w s x y z)
  have HL := Lib.hid hok.lens
  have HOK := Lib.hid hok
  clear h hok
  go_enter Tryz.func20, Tryz.ntmps20
  go_wp2_with (first
    | (refine wp_allocS1 (w := w) rfl rfl ?_)
    | (refine wp_loadS (b := w.heap.size) (s := s) rfl rfl rfl H0.out.b0 ?_))
  refine (copyScreen_any s x y z _ (HI.out.kept H0.out.bel) HL.out).mono ?_; rintro e w1 ⟨x1, y1, z1, rfl, ho, hb⟩
  have H1 := Lib.hid (H0.out.kept hb)
  have HO1 := Lib.hid (ho.low H0.out.up)
  clear ho hb H0 HI
  go_upto_region 2 with (refine wp_storeS_then (b := w.heap.size) (A := sarr s x1 y1 z1) (T := Pb w s x1 y1 z1) rfl rfl rfl rfl rfl HO1.out.in_.one H1.out.b0 rfl (fun _ k => Pb.start H1.out HO1.out k) ?_; intro w2 H2)
  go_simp
  change Code.wp _ _ _ _ w2
  clear H1 HO1
  go_wp2_with fail
  refine (refBit_any false n w2).mono ?_; rintro e w3 ⟨rfl, hb⟩
  have H3 := Lib.hid (H2.out.kept hb)
  clear hb H2
  rw [HBT.out]
  go_wp2_with (first
    | (refine wp_loadS (b := w.heap.size) (s := s) rfl rfl rfl H3.out.pn.box ?_)
    | (refine wp_storeS (b := w.heap.size + 1) rfl rfl rfl rfl rfl H3.out.pn.own.in_.one H3.out.b1 rfl ?_; intro w9 h9))
  refine bodyPost_ret (ret1S rfl rfl h9.box) rfl ?_
  have hoo : Own w9 w.heap.size (s) x1 y1 z1 := Own.low (h9.own H3.out.pn.own (show w.heap.size + 1 < w.heap.size + 2 by omega)) (show w.heap.size ≤ w.heap.size + 2 by omega)
  exact ⟨_, _, _, rfl, hoo, h9.below _ _ (by omega) H3.out.bel⟩
set_option maxHeartbeats 3200000 in
theorem refSet_other (s : S) (x y z : Value) (n : Int) (on : Bool) (w : World) (h : In w s x y z) (hok : Ok s) (hb : bitOf true n = 0) (h1 : ¬ n = 6) (h2 : ¬ n = 47) (h3 : ¬ n = 1047) (h4 : ¬ n = 1049) :
    Calls Tryz.prog 20 #[sv s x y z, .bool true, .int .i64 n, .bool on] w fun e w' => ∃ x' y' z', e = .returned (sv (s) x' y' z') ∧ Own w' w.heap.size (s) x' y' z' ∧ Below w.heap.size w w' := by
  have HBT := Lib.hid hb
  have k1 : (n == 6) = false := by rw [beq_eq_false_iff_ne]; exact h1
  have k2 : (n == 47) = false := by rw [beq_eq_false_iff_ne]; exact h2
  have k3 : (n == 1047) = false := by rw [beq_eq_false_iff_ne]; exact h3
  have k4 : (n == 1049) = false := by rw [beq_eq_false_iff_ne]; exact h4
  clear hb h1 h2 h3 h4
  have HI := Lib.hid h
  have H0 := Lib.hid (Rz.start w s x y z)
  have HL := Lib.hid hok.lens
  have HOK := Lib.hid hok
  clear h hok
  go_enter Tryz.func20, Tryz.ntmps20
  go_wp2_with (first
    | (refine wp_allocS1 (w := w) rfl rfl ?_)
    | (refine wp_loadS (b := w.heap.size) (s := s) rfl rfl rfl H0.out.b0 ?_))
  refine (copyScreen_any s x y z _ (HI.out.kept H0.out.bel) HL.out).mono ?_; rintro e w1 ⟨x1, y1, z1, rfl, ho, hb⟩
  have H1 := Lib.hid (H0.out.kept hb)
  have HO1 := Lib.hid (ho.low H0.out.up)
  clear ho hb H0 HI
  go_upto_region 2 with (refine wp_storeS_then (b := w.heap.size) (A := sarr s x1 y1 z1) (T := Pb w s x1 y1 z1) rfl rfl rfl rfl rfl HO1.out.in_.one H1.out.b0 rfl (fun _ k => Pb.start H1.out HO1.out k) ?_; intro w2 H2)
  go_simp
  change Code.wp _ _ _ _ w2
  clear H1 HO1
  go_wp2_with fail
  refine (refBit_any true n w2).mono ?_; rintro e w3 ⟨rfl, hb⟩
  have H3 := Lib.hid (H2.out.kept hb)
  clear hb H2
  rw [HBT.out]
  go_wp2_with (first
    | (refine wp_loadS (b := w.heap.size) (s := s) rfl rfl rfl H3.out.pn.box ?_)
    | (refine wp_storeS (b := w.heap.size + 1) rfl rfl rfl rfl rfl H3.out.pn.own.in_.one H3.out.b1 rfl ?_; intro w9 h9))
  refine bodyPost_ret (ret1S rfl rfl h9.box) rfl ?_
  have hoo : Own w9 w.heap.size (s) x1 y1 z1 := Own.low (h9.own H3.out.pn.own (show w.heap.size + 1 < w.heap.size + 2 by omega)) (show w.heap.size ≤ w.heap.size + 2 by omega)
  exact ⟨_, _, _, rfl, hoo, h9.below _ _ (by omega) H3.out.bel⟩
set_option maxHeartbeats 3200000 in
theorem refSet_origin (s : S) (x y z : Value) (on : Bool) (w : World) (h : In w s x y z) (hok : Ok s) :
    Calls Tryz.prog 20 #[sv s x y z, .bool true, .int .i64 6, .bool on] w fun e w' => ∃ x' y' z', e = .returned (sv (moveS (originS s on) 72 1 1) x' y' z') ∧ Own w' w.heap.size (moveS (originS s on) 72 1 1) x' y' z' ∧ Below w.heap.size w w' := by
  have HBT : Hid (bitOf true 6 = 0) := Lib.hid rfl
  have HI := Lib.hid h
  have H0 := Lib.hid (Rz.start w s x y z)
  have HL := Lib.hid hok.lens
  have HOK := Lib.hid hok
  clear h hok
  go_enter Tryz.func20, Tryz.ntmps20
  go_wp2_with (first
    | (refine wp_allocS1 (w := w) rfl rfl ?_)
    | (refine wp_loadS (b := w.heap.size) (s := s) rfl rfl rfl H0.out.b0 ?_))
  refine (copyScreen_any s x y z _ (HI.out.kept H0.out.bel) HL.out).mono ?_; rintro e w1 ⟨x1, y1, z1, rfl, ho, hb⟩
  have H1 := Lib.hid (H0.out.kept hb)
  have HO1 := Lib.hid (ho.low H0.out.up)
  clear ho hb H0 HI
  go_upto_region 2 with (refine wp_storeS_then (b := w.heap.size) (A := sarr s x1 y1 z1) (T := Pb w s x1 y1 z1) rfl rfl rfl rfl rfl HO1.out.in_.one H1.out.b0 rfl (fun _ k => Pb.start H1.out HO1.out k) ?_; intro w2 H2)
  go_simp
  change Code.wp _ _ _ _ w2
  clear H1 HO1
  go_wp2_with fail
  refine (refBit_any true 6 w2).mono ?_; rintro e w3 ⟨rfl, hb⟩
  have H3 := Lib.hid (H2.out.kept hb)
  clear hb H2
  rw [HBT.out]
  have c16 : w3.cell? ⟨w.heap.size, 16, none⟩ = some (.bool s.cur.origin) := H3.out.pn.box.cell 16
  have f16 : w3.frozen? ⟨w.heap.size, 16, none⟩ = false := H3.out.pn.box.free 16
  go_upto_region 13 with (fail)
  change Code.wp _ _ _ _ (w3.setCell ⟨w.heap.size, 16, none⟩ (.bool on))
  have H5 := Lib.hid (H3.out.origin on)
  clear c16 f16 H3
  generalize w3.setCell ⟨w.heap.size, 16, none⟩ (.bool on) = w5 at H5 ⊢
  go_wp2_with (refine wp_loadS (b := w.heap.size) (s := originS s on) rfl rfl rfl H5.out.pn.box ?_)
  refine (refHome_any (originS s on) x1 y1 z1 w5 H5.out.pn.own.in_ (originS_ok HOK.out on)).mono ?_; rintro e w8 ⟨x8, y8, z8, rfl, ho, hb⟩
  have H8 := Lib.hid (H5.out.kept hb)
  have HO8 := Lib.hid (ho.low H5.out.pn.up)
  clear ho hb H5
  go_wp2_with (refine wp_storeS (b := w.heap.size + 1) rfl rfl rfl rfl rfl HO8.out.in_.one H8.out.b1 rfl ?_; intro w9 h9)
  refine bodyPost_ret (ret1S rfl rfl h9.box) rfl ?_
  exact ⟨_, _, _, rfl, Own.low (h9.own HO8.out (by omega)) (by omega), h9.below _ _ (by omega) H8.out.bel⟩
set_option maxHeartbeats 3200000 in
theorem refSet_47ff (s : S) (x y z : Value) (w : World) (h : In w s x y z) (hok : Ok s) (hs : s.swapped = false) :
    Calls Tryz.prog 20 #[sv s x y z, .bool true, .int .i64 47, .bool false] w fun e w' => ∃ x' y' z', e = .returned (sv (turnS s false false false) x' y' z') ∧ Own w' w.heap.size (turnS s false false false) x' y' z' ∧ Below w.heap.size w w' := by
  have HE : Hid (turnS s false false false = swapS (s) false) := Lib.hid (by
    unfold turnS turnB turnA
    rw [hs]
    rfl)
  rw [HE.out]
  have HSW := Lib.hid hs
  have HBT : Hid (bitOf true 47 = 0) := Lib.hid rfl
  clear hs HE
  have HI := Lib.hid h
  have H0 := Lib.hid (Rz.start w s x y z)
  have HL := Lib.hid hok.lens
  have HOK := Lib.hid hok
  clear h hok
  go_enter Tryz.func20, Tryz.ntmps20
  go_wp2_with (first
    | (refine wp_allocS1 (w := w) rfl rfl ?_)
    | (refine wp_loadS (b := w.heap.size) (s := s) rfl rfl rfl H0.out.b0 ?_))
  refine (copyScreen_any s x y z _ (HI.out.kept H0.out.bel) HL.out).mono ?_; rintro e w1 ⟨x1, y1, z1, rfl, ho, hb⟩
  have H1 := Lib.hid (H0.out.kept hb)
  have HO1 := Lib.hid (ho.low H0.out.up)
  clear ho hb H0 HI
  go_upto_region 2 with (refine wp_storeS_then (b := w.heap.size) (A := sarr s x1 y1 z1) (T := Pb w s x1 y1 z1) rfl rfl rfl rfl rfl HO1.out.in_.one H1.out.b0 rfl (fun _ k => Pb.start H1.out HO1.out k) ?_; intro w2 H2)
  go_simp
  change Code.wp _ _ _ _ w2
  clear H1 HO1
  go_wp2_with fail
  refine (refBit_any true 47 w2).mono ?_; rintro e w3 ⟨rfl, hb⟩
  have H3 := Lib.hid (H2.out.kept hb)
  clear hb H2
  rw [HBT.out]
  have c6 : w3.cell? ⟨w.heap.size, 6, none⟩ = some (.bool false) := by have k := H3.out.pn.box.cell 6; rw [sarr_6, HSW.out] at k; exact k
  go_upto_region 20 with (fail)
  clear c6
  have c6 : w3.cell? ⟨w.heap.size, 6, none⟩ = some (.bool (s).swapped) := H3.out.pn.box.cell 6
  have f6 : w3.frozen? ⟨w.heap.size, 6, none⟩ = false := H3.out.pn.box.free 6
  go_upto_region 21 with (fail)
  change Code.wp _ _ _ _ (w3.setCell ⟨w.heap.size, 6, none⟩ (.bool false))
  have H4 := Lib.hid (H3.out.swap false)
  clear c6 f6 H3
  generalize w3.setCell ⟨w.heap.size, 6, none⟩ (.bool false) = w4 at H4 ⊢
  go_wp2_with (first
    | (refine wp_loadS (b := w.heap.size) (s := swapS (s) false) rfl rfl rfl H4.out.pn.box ?_)
    | (refine wp_storeS (b := w.heap.size + 1) rfl rfl rfl rfl rfl H4.out.pn.own.in_.one H4.out.b1 rfl ?_; intro w9 h9))
  refine bodyPost_ret (ret1S rfl rfl h9.box) rfl ?_
  have hoo : Own w9 w.heap.size (swapS (s) false) x1 y1 z1 := Own.low (h9.own H4.out.pn.own (show w.heap.size + 1 < w.heap.size + 2 by omega)) (show w.heap.size ≤ w.heap.size + 2 by omega)
  exact ⟨_, _, _, rfl, hoo, h9.below _ _ (by omega) H4.out.bel⟩
set_option maxHeartbeats 3200000 in
theorem refSet_47ft (s : S) (x y z : Value) (w : World) (h : In w s x y z) (hok : Ok s) (hs : s.swapped = true) :
    Calls Tryz.prog 20 #[sv s x y z, .bool true, .int .i64 47, .bool false] w fun e w' => ∃ x' y' z', e = .returned (sv (turnS s false false false) x' y' z') ∧ Own w' w.heap.size (turnS s false false false) x' y' z' ∧ Below w.heap.size w w' := by
  have HE : Hid (turnS s false false false = swapS (s) false) := Lib.hid (by
    unfold turnS turnB turnA
    rw [hs]
    rfl)
  rw [HE.out]
  have HSW := Lib.hid hs
  have HBT : Hid (bitOf true 47 = 0) := Lib.hid rfl
  clear hs HE
  have HI := Lib.hid h
  have H0 := Lib.hid (Rz.start w s x y z)
  have HL := Lib.hid hok.lens
  have HOK := Lib.hid hok
  clear h hok
  go_enter Tryz.func20, Tryz.ntmps20
  go_wp2_with (first
    | (refine wp_allocS1 (w := w) rfl rfl ?_)
    | (refine wp_loadS (b := w.heap.size) (s := s) rfl rfl rfl H0.out.b0 ?_))
  refine (copyScreen_any s x y z _ (HI.out.kept H0.out.bel) HL.out).mono ?_; rintro e w1 ⟨x1, y1, z1, rfl, ho, hb⟩
  have H1 := Lib.hid (H0.out.kept hb)
  have HO1 := Lib.hid (ho.low H0.out.up)
  clear ho hb H0 HI
  go_upto_region 2 with (refine wp_storeS_then (b := w.heap.size) (A := sarr s x1 y1 z1) (T := Pb w s x1 y1 z1) rfl rfl rfl rfl rfl HO1.out.in_.one H1.out.b0 rfl (fun _ k => Pb.start H1.out HO1.out k) ?_; intro w2 H2)
  go_simp
  change Code.wp _ _ _ _ w2
  clear H1 HO1
  go_wp2_with fail
  refine (refBit_any true 47 w2).mono ?_; rintro e w3 ⟨rfl, hb⟩
  have H3 := Lib.hid (H2.out.kept hb)
  clear hb H2
  rw [HBT.out]
  have c6 : w3.cell? ⟨w.heap.size, 6, none⟩ = some (.bool true) := by have k := H3.out.pn.box.cell 6; rw [sarr_6, HSW.out] at k; exact k
  go_upto_region 20 with (fail)
  clear c6
  have c6 : w3.cell? ⟨w.heap.size, 6, none⟩ = some (.bool (s).swapped) := H3.out.pn.box.cell 6
  have f6 : w3.frozen? ⟨w.heap.size, 6, none⟩ = false := H3.out.pn.box.free 6
  go_upto_region 21 with (fail)
  change Code.wp _ _ _ _ (w3.setCell ⟨w.heap.size, 6, none⟩ (.bool false))
  have H4 := Lib.hid (H3.out.swap false)
  clear c6 f6 H3
  generalize w3.setCell ⟨w.heap.size, 6, none⟩ (.bool false) = w4 at H4 ⊢
  go_wp2_with (first
    | (refine wp_loadS (b := w.heap.size) (s := swapS (s) false) rfl rfl rfl H4.out.pn.box ?_)
    | (refine wp_storeS (b := w.heap.size + 1) rfl rfl rfl rfl rfl H4.out.pn.own.in_.one H4.out.b1 rfl ?_; intro w9 h9))
  refine bodyPost_ret (ret1S rfl rfl h9.box) rfl ?_
  have hoo : Own w9 w.heap.size (swapS (s) false) x1 y1 z1 := Own.low (h9.own H4.out.pn.own (show w.heap.size + 1 < w.heap.size + 2 by omega)) (show w.heap.size ≤ w.heap.size + 2 by omega)
  exact ⟨_, _, _, rfl, hoo, h9.below _ _ (by omega) H4.out.bel⟩
set_option maxHeartbeats 3200000 in
theorem refSet_47tf (s : S) (x y z : Value) (w : World) (h : In w s x y z) (hok : Ok s) (hs : s.swapped = false) :
    Calls Tryz.prog 20 #[sv s x y z, .bool true, .int .i64 47, .bool true] w fun e w' => ∃ x' y' z', e = .returned (sv (turnS s false false true) x' y' z') ∧ Own w' w.heap.size (turnS s false false true) x' y' z' ∧ Below w.heap.size w w' := by
  have HE : Hid (turnS s false false true = swapS (s) true) := Lib.hid (by
    unfold turnS turnB turnA
    rw [hs]
    rfl)
  rw [HE.out]
  have HSW := Lib.hid hs
  have HBT : Hid (bitOf true 47 = 0) := Lib.hid rfl
  clear hs HE
  have HI := Lib.hid h
  have H0 := Lib.hid (Rz.start w s x y z)
  have HL := Lib.hid hok.lens
  have HOK := Lib.hid hok
  clear h hok
  go_enter Tryz.func20, Tryz.ntmps20
  go_wp2_with (first
    | (refine wp_allocS1 (w := w) rfl rfl ?_)
    | (refine wp_loadS (b := w.heap.size) (s := s) rfl rfl rfl H0.out.b0 ?_))
  refine (copyScreen_any s x y z _ (HI.out.kept H0.out.bel) HL.out).mono ?_; rintro e w1 ⟨x1, y1, z1, rfl, ho, hb⟩
  have H1 := Lib.hid (H0.out.kept hb)
  have HO1 := Lib.hid (ho.low H0.out.up)
  clear ho hb H0 HI
  go_upto_region 2 with (refine wp_storeS_then (b := w.heap.size) (A := sarr s x1 y1 z1) (T := Pb w s x1 y1 z1) rfl rfl rfl rfl rfl HO1.out.in_.one H1.out.b0 rfl (fun _ k => Pb.start H1.out HO1.out k) ?_; intro w2 H2)
  go_simp
  change Code.wp _ _ _ _ w2
  clear H1 HO1
  go_wp2_with fail
  refine (refBit_any true 47 w2).mono ?_; rintro e w3 ⟨rfl, hb⟩
  have H3 := Lib.hid (H2.out.kept hb)
  clear hb H2
  rw [HBT.out]
  have c6 : w3.cell? ⟨w.heap.size, 6, none⟩ = some (.bool false) := by have k := H3.out.pn.box.cell 6; rw [sarr_6, HSW.out] at k; exact k
  go_upto_region 20 with (fail)
  clear c6
  have c6 : w3.cell? ⟨w.heap.size, 6, none⟩ = some (.bool (s).swapped) := H3.out.pn.box.cell 6
  have f6 : w3.frozen? ⟨w.heap.size, 6, none⟩ = false := H3.out.pn.box.free 6
  go_upto_region 21 with (fail)
  change Code.wp _ _ _ _ (w3.setCell ⟨w.heap.size, 6, none⟩ (.bool true))
  have H4 := Lib.hid (H3.out.swap true)
  clear c6 f6 H3
  generalize w3.setCell ⟨w.heap.size, 6, none⟩ (.bool true) = w4 at H4 ⊢
  go_wp2_with (first
    | (refine wp_loadS (b := w.heap.size) (s := swapS (s) true) rfl rfl rfl H4.out.pn.box ?_)
    | (refine wp_storeS (b := w.heap.size + 1) rfl rfl rfl rfl rfl H4.out.pn.own.in_.one H4.out.b1 rfl ?_; intro w9 h9))
  refine bodyPost_ret (ret1S rfl rfl h9.box) rfl ?_
  have hoo : Own w9 w.heap.size (swapS (s) true) x1 y1 z1 := Own.low (h9.own H4.out.pn.own (show w.heap.size + 1 < w.heap.size + 2 by omega)) (show w.heap.size ≤ w.heap.size + 2 by omega)
  exact ⟨_, _, _, rfl, hoo, h9.below _ _ (by omega) H4.out.bel⟩
set_option maxHeartbeats 3200000 in
theorem refSet_47tt (s : S) (x y z : Value) (w : World) (h : In w s x y z) (hok : Ok s) (hs : s.swapped = true) :
    Calls Tryz.prog 20 #[sv s x y z, .bool true, .int .i64 47, .bool true] w fun e w' => ∃ x' y' z', e = .returned (sv (turnS s false false true) x' y' z') ∧ Own w' w.heap.size (turnS s false false true) x' y' z' ∧ Below w.heap.size w w' := by
  have HE : Hid (turnS s false false true = swapS (s) true) := Lib.hid (by
    unfold turnS turnB turnA
    rw [hs]
    rfl)
  rw [HE.out]
  have HSW := Lib.hid hs
  have HBT : Hid (bitOf true 47 = 0) := Lib.hid rfl
  clear hs HE
  have HI := Lib.hid h
  have H0 := Lib.hid (Rz.start w s x y z)
  have HL := Lib.hid hok.lens
  have HOK := Lib.hid hok
  clear h hok
  go_enter Tryz.func20, Tryz.ntmps20
  go_wp2_with (first
    | (refine wp_allocS1 (w := w) rfl rfl ?_)
    | (refine wp_loadS (b := w.heap.size) (s := s) rfl rfl rfl H0.out.b0 ?_))
  refine (copyScreen_any s x y z _ (HI.out.kept H0.out.bel) HL.out).mono ?_; rintro e w1 ⟨x1, y1, z1, rfl, ho, hb⟩
  have H1 := Lib.hid (H0.out.kept hb)
  have HO1 := Lib.hid (ho.low H0.out.up)
  clear ho hb H0 HI
  go_upto_region 2 with (refine wp_storeS_then (b := w.heap.size) (A := sarr s x1 y1 z1) (T := Pb w s x1 y1 z1) rfl rfl rfl rfl rfl HO1.out.in_.one H1.out.b0 rfl (fun _ k => Pb.start H1.out HO1.out k) ?_; intro w2 H2)
  go_simp
  change Code.wp _ _ _ _ w2
  clear H1 HO1
  go_wp2_with fail
  refine (refBit_any true 47 w2).mono ?_; rintro e w3 ⟨rfl, hb⟩
  have H3 := Lib.hid (H2.out.kept hb)
  clear hb H2
  rw [HBT.out]
  have c6 : w3.cell? ⟨w.heap.size, 6, none⟩ = some (.bool true) := by have k := H3.out.pn.box.cell 6; rw [sarr_6, HSW.out] at k; exact k
  go_upto_region 20 with (fail)
  clear c6
  have c6 : w3.cell? ⟨w.heap.size, 6, none⟩ = some (.bool (s).swapped) := H3.out.pn.box.cell 6
  have f6 : w3.frozen? ⟨w.heap.size, 6, none⟩ = false := H3.out.pn.box.free 6
  go_upto_region 21 with (fail)
  change Code.wp _ _ _ _ (w3.setCell ⟨w.heap.size, 6, none⟩ (.bool true))
  have H4 := Lib.hid (H3.out.swap true)
  clear c6 f6 H3
  generalize w3.setCell ⟨w.heap.size, 6, none⟩ (.bool true) = w4 at H4 ⊢
  go_wp2_with (first
    | (refine wp_loadS (b := w.heap.size) (s := swapS (s) true) rfl rfl rfl H4.out.pn.box ?_)
    | (refine wp_storeS (b := w.heap.size + 1) rfl rfl rfl rfl rfl H4.out.pn.own.in_.one H4.out.b1 rfl ?_; intro w9 h9))
  refine bodyPost_ret (ret1S rfl rfl h9.box) rfl ?_
  have hoo : Own w9 w.heap.size (swapS (s) true) x1 y1 z1 := Own.low (h9.own H4.out.pn.own (show w.heap.size + 1 < w.heap.size + 2 by omega)) (show w.heap.size ≤ w.heap.size + 2 by omega)
  exact ⟨_, _, _, rfl, hoo, h9.below _ _ (by omega) H4.out.bel⟩
set_option maxHeartbeats 3200000 in
theorem refSet_1047ff (s : S) (x y z : Value) (w : World) (h : In w s x y z) (hok : Ok s) (hs : s.swapped = false) :
    Calls Tryz.prog 20 #[sv s x y z, .bool true, .int .i64 1047, .bool false] w fun e w' => ∃ x' y' z', e = .returned (sv (turnS s false true false) x' y' z') ∧ Own w' w.heap.size (turnS s false true false) x' y' z' ∧ Below w.heap.size w w' := by
  have HE : Hid (turnS s false true false = swapS (s) false) := Lib.hid (by
    unfold turnS turnB turnA
    rw [hs]
    rfl)
  rw [HE.out]
  have HSW := Lib.hid hs
  have HBT : Hid (bitOf true 1047 = 0) := Lib.hid rfl
  clear hs HE
  have HI := Lib.hid h
  have H0 := Lib.hid (Rz.start w s x y z)
  have HL := Lib.hid hok.lens
  have HOK := Lib.hid hok
  clear h hok
  go_enter Tryz.func20, Tryz.ntmps20
  go_wp2_with (first
    | (refine wp_allocS1 (w := w) rfl rfl ?_)
    | (refine wp_loadS (b := w.heap.size) (s := s) rfl rfl rfl H0.out.b0 ?_))
  refine (copyScreen_any s x y z _ (HI.out.kept H0.out.bel) HL.out).mono ?_; rintro e w1 ⟨x1, y1, z1, rfl, ho, hb⟩
  have H1 := Lib.hid (H0.out.kept hb)
  have HO1 := Lib.hid (ho.low H0.out.up)
  clear ho hb H0 HI
  go_upto_region 2 with (refine wp_storeS_then (b := w.heap.size) (A := sarr s x1 y1 z1) (T := Pb w s x1 y1 z1) rfl rfl rfl rfl rfl HO1.out.in_.one H1.out.b0 rfl (fun _ k => Pb.start H1.out HO1.out k) ?_; intro w2 H2)
  go_simp
  change Code.wp _ _ _ _ w2
  clear H1 HO1
  go_wp2_with fail
  refine (refBit_any true 1047 w2).mono ?_; rintro e w3 ⟨rfl, hb⟩
  have H3 := Lib.hid (H2.out.kept hb)
  clear hb H2
  rw [HBT.out]
  have c6 : w3.cell? ⟨w.heap.size, 6, none⟩ = some (.bool false) := by have k := H3.out.pn.box.cell 6; rw [sarr_6, HSW.out] at k; exact k
  go_upto_region 20 with (fail)
  clear c6
  have c6 : w3.cell? ⟨w.heap.size, 6, none⟩ = some (.bool (s).swapped) := H3.out.pn.box.cell 6
  have f6 : w3.frozen? ⟨w.heap.size, 6, none⟩ = false := H3.out.pn.box.free 6
  go_upto_region 21 with (fail)
  change Code.wp _ _ _ _ (w3.setCell ⟨w.heap.size, 6, none⟩ (.bool false))
  have H4 := Lib.hid (H3.out.swap false)
  clear c6 f6 H3
  generalize w3.setCell ⟨w.heap.size, 6, none⟩ (.bool false) = w4 at H4 ⊢
  go_wp2_with (first
    | (refine wp_loadS (b := w.heap.size) (s := swapS (s) false) rfl rfl rfl H4.out.pn.box ?_)
    | (refine wp_storeS (b := w.heap.size + 1) rfl rfl rfl rfl rfl H4.out.pn.own.in_.one H4.out.b1 rfl ?_; intro w9 h9))
  refine bodyPost_ret (ret1S rfl rfl h9.box) rfl ?_
  have hoo : Own w9 w.heap.size (swapS (s) false) x1 y1 z1 := Own.low (h9.own H4.out.pn.own (show w.heap.size + 1 < w.heap.size + 2 by omega)) (show w.heap.size ≤ w.heap.size + 2 by omega)
  exact ⟨_, _, _, rfl, hoo, h9.below _ _ (by omega) H4.out.bel⟩
set_option maxHeartbeats 3200000 in
theorem refSet_1047ft (s : S) (x y z : Value) (w : World) (h : In w s x y z) (hok : Ok s) (hs : s.swapped = true) :
    Calls Tryz.prog 20 #[sv s x y z, .bool true, .int .i64 1047, .bool false] w fun e w' => ∃ x' y' z', e = .returned (sv (turnS s false true false) x' y' z') ∧ Own w' w.heap.size (turnS s false true false) x' y' z' ∧ Below w.heap.size w w' := by
  have HE : Hid (turnS s false true false = swapS (s) false) := Lib.hid (by
    unfold turnS turnB turnA
    rw [hs]
    rfl)
  rw [HE.out]
  have HSW := Lib.hid hs
  have HBT : Hid (bitOf true 1047 = 0) := Lib.hid rfl
  clear hs HE
  have HI := Lib.hid h
  have H0 := Lib.hid (Rz.start w s x y z)
  have HL := Lib.hid hok.lens
  have HOK := Lib.hid hok
  clear h hok
  go_enter Tryz.func20, Tryz.ntmps20
  go_wp2_with (first
    | (refine wp_allocS1 (w := w) rfl rfl ?_)
    | (refine wp_loadS (b := w.heap.size) (s := s) rfl rfl rfl H0.out.b0 ?_))
  refine (copyScreen_any s x y z _ (HI.out.kept H0.out.bel) HL.out).mono ?_; rintro e w1 ⟨x1, y1, z1, rfl, ho, hb⟩
  have H1 := Lib.hid (H0.out.kept hb)
  have HO1 := Lib.hid (ho.low H0.out.up)
  clear ho hb H0 HI
  go_upto_region 2 with (refine wp_storeS_then (b := w.heap.size) (A := sarr s x1 y1 z1) (T := Pb w s x1 y1 z1) rfl rfl rfl rfl rfl HO1.out.in_.one H1.out.b0 rfl (fun _ k => Pb.start H1.out HO1.out k) ?_; intro w2 H2)
  go_simp
  change Code.wp _ _ _ _ w2
  clear H1 HO1
  go_wp2_with fail
  refine (refBit_any true 1047 w2).mono ?_; rintro e w3 ⟨rfl, hb⟩
  have H3 := Lib.hid (H2.out.kept hb)
  clear hb H2
  rw [HBT.out]
  have c6 : w3.cell? ⟨w.heap.size, 6, none⟩ = some (.bool true) := by have k := H3.out.pn.box.cell 6; rw [sarr_6, HSW.out] at k; exact k
  go_upto_region 20 with (fail)
  clear c6
  have c6 : w3.cell? ⟨w.heap.size, 6, none⟩ = some (.bool (s).swapped) := H3.out.pn.box.cell 6
  have f6 : w3.frozen? ⟨w.heap.size, 6, none⟩ = false := H3.out.pn.box.free 6
  go_upto_region 21 with (fail)
  change Code.wp _ _ _ _ (w3.setCell ⟨w.heap.size, 6, none⟩ (.bool false))
  have H4 := Lib.hid (H3.out.swap false)
  clear c6 f6 H3
  generalize w3.setCell ⟨w.heap.size, 6, none⟩ (.bool false) = w4 at H4 ⊢
  go_wp2_with (first
    | (refine wp_loadS (b := w.heap.size) (s := swapS (s) false) rfl rfl rfl H4.out.pn.box ?_)
    | (refine wp_storeS (b := w.heap.size + 1) rfl rfl rfl rfl rfl H4.out.pn.own.in_.one H4.out.b1 rfl ?_; intro w9 h9))
  refine bodyPost_ret (ret1S rfl rfl h9.box) rfl ?_
  have hoo : Own w9 w.heap.size (swapS (s) false) x1 y1 z1 := Own.low (h9.own H4.out.pn.own (show w.heap.size + 1 < w.heap.size + 2 by omega)) (show w.heap.size ≤ w.heap.size + 2 by omega)
  exact ⟨_, _, _, rfl, hoo, h9.below _ _ (by omega) H4.out.bel⟩
set_option maxHeartbeats 3200000 in
theorem refSet_1047tf (s : S) (x y z : Value) (w : World) (h : In w s x y z) (hok : Ok s) (hs : s.swapped = false) :
    Calls Tryz.prog 20 #[sv s x y z, .bool true, .int .i64 1047, .bool true] w fun e w' => ∃ x' y' z', e = .returned (sv (turnS s false true true) x' y' z') ∧ Own w' w.heap.size (turnS s false true true) x' y' z' ∧ Below w.heap.size w w' := by
  have HE : Hid (turnS s false true true = blankS (swapS (s) true)) := Lib.hid (by
    unfold turnS turnB turnA
    rw [hs]
    rfl)
  rw [HE.out]
  have HSW := Lib.hid hs
  have HBT : Hid (bitOf true 1047 = 0) := Lib.hid rfl
  clear hs HE
  have HI := Lib.hid h
  have H0 := Lib.hid (Rz.start w s x y z)
  have HL := Lib.hid hok.lens
  have HOK := Lib.hid hok
  clear h hok
  go_enter Tryz.func20, Tryz.ntmps20
  go_wp2_with (first
    | (refine wp_allocS1 (w := w) rfl rfl ?_)
    | (refine wp_loadS (b := w.heap.size) (s := s) rfl rfl rfl H0.out.b0 ?_))
  refine (copyScreen_any s x y z _ (HI.out.kept H0.out.bel) HL.out).mono ?_; rintro e w1 ⟨x1, y1, z1, rfl, ho, hb⟩
  have H1 := Lib.hid (H0.out.kept hb)
  have HO1 := Lib.hid (ho.low H0.out.up)
  clear ho hb H0 HI
  go_upto_region 2 with (refine wp_storeS_then (b := w.heap.size) (A := sarr s x1 y1 z1) (T := Pb w s x1 y1 z1) rfl rfl rfl rfl rfl HO1.out.in_.one H1.out.b0 rfl (fun _ k => Pb.start H1.out HO1.out k) ?_; intro w2 H2)
  go_simp
  change Code.wp _ _ _ _ w2
  clear H1 HO1
  go_wp2_with fail
  refine (refBit_any true 1047 w2).mono ?_; rintro e w3 ⟨rfl, hb⟩
  have H3 := Lib.hid (H2.out.kept hb)
  clear hb H2
  rw [HBT.out]
  have c6 : w3.cell? ⟨w.heap.size, 6, none⟩ = some (.bool false) := by have k := H3.out.pn.box.cell 6; rw [sarr_6, HSW.out] at k; exact k
  go_upto_region 20 with (fail)
  clear c6
  have c6 : w3.cell? ⟨w.heap.size, 6, none⟩ = some (.bool (s).swapped) := H3.out.pn.box.cell 6
  have f6 : w3.frozen? ⟨w.heap.size, 6, none⟩ = false := H3.out.pn.box.free 6
  go_upto_region 21 with (fail)
  change Code.wp _ _ _ _ (w3.setCell ⟨w.heap.size, 6, none⟩ (.bool true))
  have H4 := Lib.hid (H3.out.swap true)
  clear c6 f6 H3
  generalize w3.setCell ⟨w.heap.size, 6, none⟩ (.bool true) = w4 at H4 ⊢
  obtain ⟨R, C, hR, hC, hR1, hR40, hC1, hC40⟩ := HOK.out.size
  have HN := Lib.hid (fun W => refNew_any R C plain W hR40 hC40)
  have HRC : Hid (blankS (swapS (s) true) = { swapS (s) true with other := newG R C }) := Lib.hid (by
    have e1 : (swapS (s) true).main.rows = (R : Int) := hR
    have e2 : (swapS (s) true).main.cols = (C : Int) := hC
    unfold blankS
    rw [e1, e2, Int.toNat_natCast, Int.toNat_natCast])
  have e1 : (swapS (s) true).main.rows = (R : Int) := hR
  have e2 : (swapS (s) true).main.cols = (C : Int) := hC
  have HQ : Hid (∀ W, Pb w (swapS (s) true) x1 y1 z1 W → W.cell? ⟨w.heap.size, 0, none⟩ = some (.int .i64 R) ∧ W.cell? ⟨w.heap.size, 1, none⟩ = some (.int .i64 C) ∧ (∀ j, W.frozen? ⟨w.heap.size, j, none⟩ = false) ∧ W.cell? ⟨w.heap.size, 3, none⟩ = some (.int .i64 (swapS (s) true).other.rows) ∧ W.cell? ⟨w.heap.size, 4, none⟩ = some (.int .i64 (swapS (s) true).other.cols) ∧ W.cell? ⟨w.heap.size, 5, none⟩ = some (y1)) := Lib.hid fun W q =>
    ⟨by have t := q.pn.box.cell 0; rw [sarr_0, e1] at t; exact t, by have t := q.pn.box.cell 1; rw [sarr_1, e2] at t; exact t, q.pn.box.free, q.pn.box.cell 3, q.pn.box.cell 4, q.pn.box.cell 5⟩
  clear hR hC hR1 hR40 hC1 hC40 e1 e2
  go_upto_region 22 with (fail)
  go_cut [10] from 65 to 73 (fun s10 wx => s10 = .bool false ∧ ∃ x y z, Hid (Pb w (blankS (swapS (s) true)) x y z wx))
  case first =>
    have q1 := HQ.out w4.drew (H4.out.kept (Below.refl _ _).drew)
    obtain ⟨q10, q11, q12, q13, q14, q15⟩ := q1
    go_region_law (first
      | (go_simp; go_at_call 65; refine (refPlain8 _).mono ?_; rintro e wp ⟨rfl, hb⟩; have HP := Lib.hid (H4.out.kept ((Below.refl _ _).drew.trans hb)); obtain ⟨q20, q21, q22, q23, q24, q25⟩ := HQ.out _ HP.out; clear hb)
      | (go_simp; go_at_call 64; refine (HN.out _).mono ?_; rintro e wn ⟨v, rfl, ho, hb⟩; obtain ⟨A5, n5, c5, rfl⟩ : ∃ A n c, v = .slice A n c := (by obtain ⟨A, c, e, _⟩ := ho.rm.2; exact ⟨A, _, c, e⟩); have HP2 := Lib.hid (HP.out.kept hb); obtain ⟨q30, q31, q32, q33, q34, q35⟩ := HQ.out _ HP2.out; have HO2 := Lib.hid (ho.low HP.out.pn.up); clear ho hb))
    all_goals
      go_wp2_with fail
      go_meet
      have hp := HP2.out.other rfl (G := newG R C) (v := .slice A5 n5 c5) (by show OwnCs _ _ _ (news R C plain).flatten; rw [news_flat]; exact HO2.out)
      rw [← HRC.out] at hp
      exact ⟨rfl, _, _, _, Lib.hid hp⟩
  case rest =>
  obtain ⟨rfl, xb, yb, zb, HB⟩ := hcut
  rename World => wb
  clear HQ HN HRC H4
  go_wp2_with (first
    | (refine wp_loadS (b := w.heap.size) (s := blankS (swapS (s) true)) rfl rfl rfl HB.out.pn.box ?_)
    | (refine wp_storeS (b := w.heap.size + 1) rfl rfl rfl rfl rfl HB.out.pn.own.in_.one HB.out.b1 rfl ?_; intro w9 h9))
  refine bodyPost_ret (ret1S rfl rfl h9.box) rfl ?_
  have hoo : Own w9 w.heap.size (blankS (swapS (s) true)) xb yb zb := Own.low (h9.own HB.out.pn.own (show w.heap.size + 1 < w.heap.size + 2 by omega)) (show w.heap.size ≤ w.heap.size + 2 by omega)
  exact ⟨_, _, _, rfl, hoo, h9.below _ _ (by omega) HB.out.bel⟩
set_option maxHeartbeats 3200000 in
theorem refSet_1047tt (s : S) (x y z : Value) (w : World) (h : In w s x y z) (hok : Ok s) (hs : s.swapped = true) :
    Calls Tryz.prog 20 #[sv s x y z, .bool true, .int .i64 1047, .bool true] w fun e w' => ∃ x' y' z', e = .returned (sv (turnS s false true true) x' y' z') ∧ Own w' w.heap.size (turnS s false true true) x' y' z' ∧ Below w.heap.size w w' := by
  have HE : Hid (turnS s false true true = swapS (s) true) := Lib.hid (by
    unfold turnS turnB turnA
    rw [hs]
    rfl)
  rw [HE.out]
  have HSW := Lib.hid hs
  have HBT : Hid (bitOf true 1047 = 0) := Lib.hid rfl
  clear hs HE
  have HI := Lib.hid h
  have H0 := Lib.hid (Rz.start w s x y z)
  have HL := Lib.hid hok.lens
  have HOK := Lib.hid hok
  clear h hok
  go_enter Tryz.func20, Tryz.ntmps20
  go_wp2_with (first
    | (refine wp_allocS1 (w := w) rfl rfl ?_)
    | (refine wp_loadS (b := w.heap.size) (s := s) rfl rfl rfl H0.out.b0 ?_))
  refine (copyScreen_any s x y z _ (HI.out.kept H0.out.bel) HL.out).mono ?_; rintro e w1 ⟨x1, y1, z1, rfl, ho, hb⟩
  have H1 := Lib.hid (H0.out.kept hb)
  have HO1 := Lib.hid (ho.low H0.out.up)
  clear ho hb H0 HI
  go_upto_region 2 with (refine wp_storeS_then (b := w.heap.size) (A := sarr s x1 y1 z1) (T := Pb w s x1 y1 z1) rfl rfl rfl rfl rfl HO1.out.in_.one H1.out.b0 rfl (fun _ k => Pb.start H1.out HO1.out k) ?_; intro w2 H2)
  go_simp
  change Code.wp _ _ _ _ w2
  clear H1 HO1
  go_wp2_with fail
  refine (refBit_any true 1047 w2).mono ?_; rintro e w3 ⟨rfl, hb⟩
  have H3 := Lib.hid (H2.out.kept hb)
  clear hb H2
  rw [HBT.out]
  have c6 : w3.cell? ⟨w.heap.size, 6, none⟩ = some (.bool true) := by have k := H3.out.pn.box.cell 6; rw [sarr_6, HSW.out] at k; exact k
  go_upto_region 20 with (fail)
  clear c6
  have c6 : w3.cell? ⟨w.heap.size, 6, none⟩ = some (.bool (s).swapped) := H3.out.pn.box.cell 6
  have f6 : w3.frozen? ⟨w.heap.size, 6, none⟩ = false := H3.out.pn.box.free 6
  go_upto_region 21 with (fail)
  change Code.wp _ _ _ _ (w3.setCell ⟨w.heap.size, 6, none⟩ (.bool true))
  have H4 := Lib.hid (H3.out.swap true)
  clear c6 f6 H3
  generalize w3.setCell ⟨w.heap.size, 6, none⟩ (.bool true) = w4 at H4 ⊢
  go_wp2_with (first
    | (refine wp_loadS (b := w.heap.size) (s := swapS (s) true) rfl rfl rfl H4.out.pn.box ?_)
    | (refine wp_storeS (b := w.heap.size + 1) rfl rfl rfl rfl rfl H4.out.pn.own.in_.one H4.out.b1 rfl ?_; intro w9 h9))
  refine bodyPost_ret (ret1S rfl rfl h9.box) rfl ?_
  have hoo : Own w9 w.heap.size (swapS (s) true) x1 y1 z1 := Own.low (h9.own H4.out.pn.own (show w.heap.size + 1 < w.heap.size + 2 by omega)) (show w.heap.size ≤ w.heap.size + 2 by omega)
  exact ⟨_, _, _, rfl, hoo, h9.below _ _ (by omega) H4.out.bel⟩
set_option maxHeartbeats 3200000 in
theorem refSet_1049ff (s : S) (x y z : Value) (w : World) (h : In w s x y z) (hok : Ok s) (hs : s.swapped = false) :
    Calls Tryz.prog 20 #[sv s x y z, .bool true, .int .i64 1049, .bool false] w fun e w' => ∃ x' y' z', e = .returned (sv (turnS s true true false) x' y' z') ∧ Own w' w.heap.size (turnS s true true false) x' y' z' ∧ Below w.heap.size w w' := by
  have HE : Hid (turnS s true true false = swapS (s) false) := Lib.hid (by
    unfold turnS turnB turnA
    rw [hs]
    rfl)
  rw [HE.out]
  have HSW := Lib.hid hs
  have HBT : Hid (bitOf true 1049 = 0) := Lib.hid rfl
  clear hs HE
  have HI := Lib.hid h
  have H0 := Lib.hid (Rz.start w s x y z)
  have HL := Lib.hid hok.lens
  have HOK := Lib.hid hok
  clear h hok
  go_enter Tryz.func20, Tryz.ntmps20
  go_wp2_with (first
    | (refine wp_allocS1 (w := w) rfl rfl ?_)
    | (refine wp_loadS (b := w.heap.size) (s := s) rfl rfl rfl H0.out.b0 ?_))
  refine (copyScreen_any s x y z _ (HI.out.kept H0.out.bel) HL.out).mono ?_; rintro e w1 ⟨x1, y1, z1, rfl, ho, hb⟩
  have H1 := Lib.hid (H0.out.kept hb)
  have HO1 := Lib.hid (ho.low H0.out.up)
  clear ho hb H0 HI
  go_upto_region 2 with (refine wp_storeS_then (b := w.heap.size) (A := sarr s x1 y1 z1) (T := Pb w s x1 y1 z1) rfl rfl rfl rfl rfl HO1.out.in_.one H1.out.b0 rfl (fun _ k => Pb.start H1.out HO1.out k) ?_; intro w2 H2)
  go_simp
  change Code.wp _ _ _ _ w2
  clear H1 HO1
  go_wp2_with fail
  refine (refBit_any true 1049 w2).mono ?_; rintro e w3 ⟨rfl, hb⟩
  have H3 := Lib.hid (H2.out.kept hb)
  clear hb H2
  rw [HBT.out]
  have c6 : w3.cell? ⟨w.heap.size, 6, none⟩ = some (.bool false) := by have k := H3.out.pn.box.cell 6; rw [sarr_6, HSW.out] at k; exact k
  go_upto_region 20 with (fail)
  clear c6
  have c6 : w3.cell? ⟨w.heap.size, 6, none⟩ = some (.bool (s).swapped) := H3.out.pn.box.cell 6
  have f6 : w3.frozen? ⟨w.heap.size, 6, none⟩ = false := H3.out.pn.box.free 6
  go_upto_region 21 with (fail)
  change Code.wp _ _ _ _ (w3.setCell ⟨w.heap.size, 6, none⟩ (.bool false))
  have H4 := Lib.hid (H3.out.swap false)
  clear c6 f6 H3
  generalize w3.setCell ⟨w.heap.size, 6, none⟩ (.bool false) = w4 at H4 ⊢
  go_wp2_with (first
    | (refine wp_loadS (b := w.heap.size) (s := swapS (s) false) rfl rfl rfl H4.out.pn.box ?_)
    | (refine wp_storeS (b := w.heap.size + 1) rfl rfl rfl rfl rfl H4.out.pn.own.in_.one H4.out.b1 rfl ?_; intro w9 h9))
  refine bodyPost_ret (ret1S rfl rfl h9.box) rfl ?_
  have hoo : Own w9 w.heap.size (swapS (s) false) x1 y1 z1 := Own.low (h9.own H4.out.pn.own (show w.heap.size + 1 < w.heap.size + 2 by omega)) (show w.heap.size ≤ w.heap.size + 2 by omega)
  exact ⟨_, _, _, rfl, hoo, h9.below _ _ (by omega) H4.out.bel⟩
set_option maxHeartbeats 3200000 in
theorem refSet_1049ft (s : S) (x y z : Value) (w : World) (h : In w s x y z) (hok : Ok s) (hs : s.swapped = true) :
    Calls Tryz.prog 20 #[sv s x y z, .bool true, .int .i64 1049, .bool false] w fun e w' => ∃ x' y' z', e = .returned (sv (turnS s true true false) x' y' z') ∧ Own w' w.heap.size (turnS s true true false) x' y' z' ∧ Below w.heap.size w w' := by
  have HE : Hid (turnS s true true false = restS (swapS (s) false)) := Lib.hid (by
    unfold turnS turnB turnA
    rw [hs]
    rfl)
  rw [HE.out]
  have HSW := Lib.hid hs
  have HBT : Hid (bitOf true 1049 = 0) := Lib.hid rfl
  clear hs HE
  have HI := Lib.hid h
  have H0 := Lib.hid (Rz.start w s x y z)
  have HL := Lib.hid hok.lens
  have HOK := Lib.hid hok
  clear h hok
  go_enter Tryz.func20, Tryz.ntmps20
  go_wp2_with (first
    | (refine wp_allocS1 (w := w) rfl rfl ?_)
    | (refine wp_loadS (b := w.heap.size) (s := s) rfl rfl rfl H0.out.b0 ?_))
  refine (copyScreen_any s x y z _ (HI.out.kept H0.out.bel) HL.out).mono ?_; rintro e w1 ⟨x1, y1, z1, rfl, ho, hb⟩
  have H1 := Lib.hid (H0.out.kept hb)
  have HO1 := Lib.hid (ho.low H0.out.up)
  clear ho hb H0 HI
  go_upto_region 2 with (refine wp_storeS_then (b := w.heap.size) (A := sarr s x1 y1 z1) (T := Pb w s x1 y1 z1) rfl rfl rfl rfl rfl HO1.out.in_.one H1.out.b0 rfl (fun _ k => Pb.start H1.out HO1.out k) ?_; intro w2 H2)
  go_simp
  change Code.wp _ _ _ _ w2
  clear H1 HO1
  go_wp2_with fail
  refine (refBit_any true 1049 w2).mono ?_; rintro e w3 ⟨rfl, hb⟩
  have H3 := Lib.hid (H2.out.kept hb)
  clear hb H2
  rw [HBT.out]
  have c6 : w3.cell? ⟨w.heap.size, 6, none⟩ = some (.bool true) := by have k := H3.out.pn.box.cell 6; rw [sarr_6, HSW.out] at k; exact k
  go_upto_region 20 with (fail)
  clear c6
  have c6 : w3.cell? ⟨w.heap.size, 6, none⟩ = some (.bool (s).swapped) := H3.out.pn.box.cell 6
  have f6 : w3.frozen? ⟨w.heap.size, 6, none⟩ = false := H3.out.pn.box.free 6
  go_upto_region 21 with (fail)
  change Code.wp _ _ _ _ (w3.setCell ⟨w.heap.size, 6, none⟩ (.bool false))
  have H4 := Lib.hid (H3.out.swap false)
  clear c6 f6 H3
  generalize w3.setCell ⟨w.heap.size, 6, none⟩ (.bool false) = w4 at H4 ⊢
  go_wp2_with (refine wp_loadS (b := w.heap.size) (s := swapS (s) false) rfl rfl rfl H4.out.pn.box ?_)
  refine (refRestore_any (swapS (s) false) x1 y1 z1 w4 H4.out.pn.own.in_ (swapS_ok (HOK.out) false)).mono ?_; rintro e w15 ⟨x16, y16, z16, rfl, ho, hb⟩
  have H15 := Lib.hid (H4.out.kept hb)
  have HW := Lib.hid ho
  have HU := Lib.hid H4.out.pn.up
  clear ho hb H4
  go_upto_region 25 with (refine wp_storeS (b := w.heap.size) (A := sarr (restS (swapS (s) false)) x16 y16 z16) rfl rfl rfl rfl rfl HW.out.in_.one H15.out.pn.box rfl ?_; intro w16 h5)
  go_simp
  change Code.wp _ _ _ _ w16
  have H16 := Lib.hid (H15.out.put HW.out HU.out h5).1
  clear h5 H15 HW HU
  go_wp2_with (first
    | (refine wp_loadS (b := w.heap.size) (s := restS (swapS (s) false)) rfl rfl rfl H16.out.pn.box ?_)
    | (refine wp_storeS (b := w.heap.size + 1) rfl rfl rfl rfl rfl H16.out.pn.own.in_.one H16.out.b1 rfl ?_; intro w9 h9))
  refine bodyPost_ret (ret1S rfl rfl h9.box) rfl ?_
  have hoo : Own w9 w.heap.size (restS (swapS (s) false)) x16 y16 z16 := Own.low (h9.own H16.out.pn.own (show w.heap.size + 1 < w.heap.size + 2 by omega)) (show w.heap.size ≤ w.heap.size + 2 by omega)
  exact ⟨_, _, _, rfl, hoo, h9.below _ _ (by omega) H16.out.bel⟩
set_option maxHeartbeats 3200000 in
theorem refSet_1049tf (s : S) (x y z : Value) (w : World) (h : In w s x y z) (hok : Ok s) (hs : s.swapped = false) :
    Calls Tryz.prog 20 #[sv s x y z, .bool true, .int .i64 1049, .bool true] w fun e w' => ∃ x' y' z', e = .returned (sv (turnS s true true true) x' y' z') ∧ Own w' w.heap.size (turnS s true true true) x' y' z' ∧ Below w.heap.size w w' := by
  have HE : Hid (turnS s true true true = blankS (swapS (saveS s) true)) := Lib.hid (by
    unfold turnS turnB turnA
    rw [hs]
    rfl)
  rw [HE.out]
  have HSW := Lib.hid hs
  have HBT : Hid (bitOf true 1049 = 0) := Lib.hid rfl
  clear hs HE
  have HI := Lib.hid h
  have H0 := Lib.hid (Rz.start w s x y z)
  have HL := Lib.hid hok.lens
  have HOK := Lib.hid hok
  clear h hok
  go_enter Tryz.func20, Tryz.ntmps20
  go_wp2_with (first
    | (refine wp_allocS1 (w := w) rfl rfl ?_)
    | (refine wp_loadS (b := w.heap.size) (s := s) rfl rfl rfl H0.out.b0 ?_))
  refine (copyScreen_any s x y z _ (HI.out.kept H0.out.bel) HL.out).mono ?_; rintro e w1 ⟨x1, y1, z1, rfl, ho, hb⟩
  have H1 := Lib.hid (H0.out.kept hb)
  have HO1 := Lib.hid (ho.low H0.out.up)
  clear ho hb H0 HI
  go_upto_region 2 with (refine wp_storeS_then (b := w.heap.size) (A := sarr s x1 y1 z1) (T := Pb w s x1 y1 z1) rfl rfl rfl rfl rfl HO1.out.in_.one H1.out.b0 rfl (fun _ k => Pb.start H1.out HO1.out k) ?_; intro w2 H2)
  go_simp
  change Code.wp _ _ _ _ w2
  clear H1 HO1
  go_wp2_with fail
  refine (refBit_any true 1049 w2).mono ?_; rintro e w3 ⟨rfl, hb⟩
  have H3 := Lib.hid (H2.out.kept hb)
  clear hb H2
  rw [HBT.out]
  have c6 : w3.cell? ⟨w.heap.size, 6, none⟩ = some (.bool false) := by have k := H3.out.pn.box.cell 6; rw [sarr_6, HSW.out] at k; exact k
  go_wp2_with (refine wp_loadS (b := w.heap.size) (s := s) rfl rfl rfl H3.out.pn.box ?_)
  refine (refSave_any (s) x1 y1 z1 w3 H3.out.pn.own.in_ (HOK.out)).mono ?_; rintro e w4 ⟨x5, y5, z5, rfl, ho, hb⟩
  have H4 := Lib.hid (H3.out.kept hb)
  have HW := Lib.hid ho
  have HU := Lib.hid H3.out.pn.up
  clear ho hb H3 c6
  go_upto_region 20 with (refine wp_storeS (b := w.heap.size) (A := sarr (saveS s) x5 y5 z5) rfl rfl rfl rfl rfl HW.out.in_.one H4.out.pn.box rfl ?_; intro w5 h5)
  go_simp
  change Code.wp _ _ _ _ w5
  have H5 := Lib.hid (H4.out.put HW.out HU.out h5).1
  clear h5 H4 HW HU
  have c6 : w5.cell? ⟨w.heap.size, 6, none⟩ = some (.bool (saveS s).swapped) := H5.out.pn.box.cell 6
  have f6 : w5.frozen? ⟨w.heap.size, 6, none⟩ = false := H5.out.pn.box.free 6
  go_upto_region 21 with (fail)
  change Code.wp _ _ _ _ (w5.setCell ⟨w.heap.size, 6, none⟩ (.bool true))
  have H6 := Lib.hid (H5.out.swap true)
  clear c6 f6 H5
  generalize w5.setCell ⟨w.heap.size, 6, none⟩ (.bool true) = w6 at H6 ⊢
  obtain ⟨R, C, hR, hC, hR1, hR40, hC1, hC40⟩ := HOK.out.size
  have HN := Lib.hid (fun W => refNew_any R C plain W hR40 hC40)
  have HRC : Hid (blankS (swapS (saveS s) true) = { swapS (saveS s) true with other := newG R C }) := Lib.hid (by
    have e1 : (swapS (saveS s) true).main.rows = (R : Int) := (save_sides s).1.trans hR
    have e2 : (swapS (saveS s) true).main.cols = (C : Int) := (save_sides s).2.trans hC
    unfold blankS
    rw [e1, e2, Int.toNat_natCast, Int.toNat_natCast])
  have e1 : (swapS (saveS s) true).main.rows = (R : Int) := (save_sides s).1.trans hR
  have e2 : (swapS (saveS s) true).main.cols = (C : Int) := (save_sides s).2.trans hC
  have HQ : Hid (∀ W, Pb w (swapS (saveS s) true) x5 y5 z5 W → W.cell? ⟨w.heap.size, 0, none⟩ = some (.int .i64 R) ∧ W.cell? ⟨w.heap.size, 1, none⟩ = some (.int .i64 C) ∧ (∀ j, W.frozen? ⟨w.heap.size, j, none⟩ = false) ∧ W.cell? ⟨w.heap.size, 3, none⟩ = some (.int .i64 (swapS (saveS s) true).other.rows) ∧ W.cell? ⟨w.heap.size, 4, none⟩ = some (.int .i64 (swapS (saveS s) true).other.cols) ∧ W.cell? ⟨w.heap.size, 5, none⟩ = some (y5)) := Lib.hid fun W q =>
    ⟨by have t := q.pn.box.cell 0; rw [sarr_0, e1] at t; exact t, by have t := q.pn.box.cell 1; rw [sarr_1, e2] at t; exact t, q.pn.box.free, q.pn.box.cell 3, q.pn.box.cell 4, q.pn.box.cell 5⟩
  clear hR hC hR1 hR40 hC1 hC40 e1 e2
  go_upto_region 22 with (fail)
  go_cut [10] from 65 to 73 (fun s10 wx => s10 = .bool false ∧ ∃ x y z, Hid (Pb w (blankS (swapS (saveS s) true)) x y z wx))
  case first =>
    have q1 := HQ.out w6.drew (H6.out.kept (Below.refl _ _).drew)
    obtain ⟨q10, q11, q12, q13, q14, q15⟩ := q1
    go_region_law (first
      | (go_simp; go_at_call 65; refine (refPlain8 _).mono ?_; rintro e wp ⟨rfl, hb⟩; have HP := Lib.hid (H6.out.kept ((Below.refl _ _).drew.trans hb)); obtain ⟨q20, q21, q22, q23, q24, q25⟩ := HQ.out _ HP.out; clear hb)
      | (go_simp; go_at_call 64; refine (HN.out _).mono ?_; rintro e wn ⟨v, rfl, ho, hb⟩; obtain ⟨A5, n5, c5, rfl⟩ : ∃ A n c, v = .slice A n c := (by obtain ⟨A, c, e, _⟩ := ho.rm.2; exact ⟨A, _, c, e⟩); have HP2 := Lib.hid (HP.out.kept hb); obtain ⟨q30, q31, q32, q33, q34, q35⟩ := HQ.out _ HP2.out; have HO2 := Lib.hid (ho.low HP.out.pn.up); clear ho hb))
    all_goals
      go_wp2_with fail
      go_meet
      have hp := HP2.out.other rfl (G := newG R C) (v := .slice A5 n5 c5) (by show OwnCs _ _ _ (news R C plain).flatten; rw [news_flat]; exact HO2.out)
      rw [← HRC.out] at hp
      exact ⟨rfl, _, _, _, Lib.hid hp⟩
  case rest =>
  obtain ⟨rfl, xb, yb, zb, HB⟩ := hcut
  rename World => wb
  clear HQ HN HRC H6
  go_wp2_with (first
    | (refine wp_loadS (b := w.heap.size) (s := blankS (swapS (saveS s) true)) rfl rfl rfl HB.out.pn.box ?_)
    | (refine wp_storeS (b := w.heap.size + 1) rfl rfl rfl rfl rfl HB.out.pn.own.in_.one HB.out.b1 rfl ?_; intro w9 h9))
  refine bodyPost_ret (ret1S rfl rfl h9.box) rfl ?_
  have hoo : Own w9 w.heap.size (blankS (swapS (saveS s) true)) xb yb zb := Own.low (h9.own HB.out.pn.own (show w.heap.size + 1 < w.heap.size + 2 by omega)) (show w.heap.size ≤ w.heap.size + 2 by omega)
  exact ⟨_, _, _, rfl, hoo, h9.below _ _ (by omega) HB.out.bel⟩
set_option maxHeartbeats 3200000 in
theorem refSet_1049tt (s : S) (x y z : Value) (w : World) (h : In w s x y z) (hok : Ok s) (hs : s.swapped = true) :
    Calls Tryz.prog 20 #[sv s x y z, .bool true, .int .i64 1049, .bool true] w fun e w' => ∃ x' y' z', e = .returned (sv (turnS s true true true) x' y' z') ∧ Own w' w.heap.size (turnS s true true true) x' y' z' ∧ Below w.heap.size w w' := by
  have HE : Hid (turnS s true true true = swapS (saveS s) true) := Lib.hid (by
    unfold turnS turnB turnA
    rw [hs]
    rfl)
  rw [HE.out]
  have HSW := Lib.hid hs
  have HBT : Hid (bitOf true 1049 = 0) := Lib.hid rfl
  clear hs HE
  have HI := Lib.hid h
  have H0 := Lib.hid (Rz.start w s x y z)
  have HL := Lib.hid hok.lens
  have HOK := Lib.hid hok
  clear h hok
  go_enter Tryz.func20, Tryz.ntmps20
  go_wp2_with (first
    | (refine wp_allocS1 (w := w) rfl rfl ?_)
    | (refine wp_loadS (b := w.heap.size) (s := s) rfl rfl rfl H0.out.b0 ?_))
  refine (copyScreen_any s x y z _ (HI.out.kept H0.out.bel) HL.out).mono ?_; rintro e w1 ⟨x1, y1, z1, rfl, ho, hb⟩
  have H1 := Lib.hid (H0.out.kept hb)
  have HO1 := Lib.hid (ho.low H0.out.up)
  clear ho hb H0 HI
  go_upto_region 2 with (refine wp_storeS_then (b := w.heap.size) (A := sarr s x1 y1 z1) (T := Pb w s x1 y1 z1) rfl rfl rfl rfl rfl HO1.out.in_.one H1.out.b0 rfl (fun _ k => Pb.start H1.out HO1.out k) ?_; intro w2 H2)
  go_simp
  change Code.wp _ _ _ _ w2
  clear H1 HO1
  go_wp2_with fail
  refine (refBit_any true 1049 w2).mono ?_; rintro e w3 ⟨rfl, hb⟩
  have H3 := Lib.hid (H2.out.kept hb)
  clear hb H2
  rw [HBT.out]
  have c6 : w3.cell? ⟨w.heap.size, 6, none⟩ = some (.bool true) := by have k := H3.out.pn.box.cell 6; rw [sarr_6, HSW.out] at k; exact k
  go_wp2_with (refine wp_loadS (b := w.heap.size) (s := s) rfl rfl rfl H3.out.pn.box ?_)
  refine (refSave_any (s) x1 y1 z1 w3 H3.out.pn.own.in_ (HOK.out)).mono ?_; rintro e w4 ⟨x5, y5, z5, rfl, ho, hb⟩
  have H4 := Lib.hid (H3.out.kept hb)
  have HW := Lib.hid ho
  have HU := Lib.hid H3.out.pn.up
  clear ho hb H3 c6
  go_upto_region 20 with (refine wp_storeS (b := w.heap.size) (A := sarr (saveS s) x5 y5 z5) rfl rfl rfl rfl rfl HW.out.in_.one H4.out.pn.box rfl ?_; intro w5 h5)
  go_simp
  change Code.wp _ _ _ _ w5
  have H5 := Lib.hid (H4.out.put HW.out HU.out h5).1
  clear h5 H4 HW HU
  have c6 : w5.cell? ⟨w.heap.size, 6, none⟩ = some (.bool (saveS s).swapped) := H5.out.pn.box.cell 6
  have f6 : w5.frozen? ⟨w.heap.size, 6, none⟩ = false := H5.out.pn.box.free 6
  go_upto_region 21 with (fail)
  change Code.wp _ _ _ _ (w5.setCell ⟨w.heap.size, 6, none⟩ (.bool true))
  have H6 := Lib.hid (H5.out.swap true)
  clear c6 f6 H5
  generalize w5.setCell ⟨w.heap.size, 6, none⟩ (.bool true) = w6 at H6 ⊢
  go_wp2_with (first
    | (refine wp_loadS (b := w.heap.size) (s := swapS (saveS s) true) rfl rfl rfl H6.out.pn.box ?_)
    | (refine wp_storeS (b := w.heap.size + 1) rfl rfl rfl rfl rfl H6.out.pn.own.in_.one H6.out.b1 rfl ?_; intro w9 h9))
  refine bodyPost_ret (ret1S rfl rfl h9.box) rfl ?_
  have hoo : Own w9 w.heap.size (swapS (saveS s) true) x5 y5 z5 := Own.low (h9.own H6.out.pn.own (show w.heap.size + 1 < w.heap.size + 2 by omega)) (show w.heap.size ≤ w.heap.size + 2 by omega)
  exact ⟨_, _, _, rfl, hoo, h9.below _ _ (by omega) H6.out.bel⟩
theorem refSet_any (s : S) (x y z : Value) (p : Bool) (n : Int) (on : Bool) (w : World) (h : In w s x y z) (hok : Ok s) :
    Calls Tryz.prog 20 #[sv s x y z, .bool p, .int .i64 n, .bool on] w fun e w' => ∃ x' y' z', e = .returned (sv (setS s p n on) x' y' z') ∧ Own w' w.heap.size (setS s p n on) x' y' z' ∧ Below w.heap.size w w' := by
  by_cases hb : bitOf p n = 0
  · cases p with
    | false =>
      have e : setS s false n on = s := by
        unfold setS deedM
        rw [if_neg (by simp), if_neg (by simp), if_neg (by simp), if_neg (by simp)]
        show putM s (bitOf false n) on = s
        rw [hb]; exact putM_zero hok on
      rw [e]
      exact refSet_none s x y z n on w h hok hb
    | true =>
      by_cases h1 : n = 6
      · subst h1
        exact refSet_origin s x y z on w h hok
      by_cases h2 : n = 47
      · subst h2
        cases on with
        | false =>
          cases hs : s.swapped
          · exact refSet_47ff s x y z w h hok hs
          · exact refSet_47ft s x y z w h hok hs
        | true =>
          cases hs : s.swapped
          · exact refSet_47tf s x y z w h hok hs
          · exact refSet_47tt s x y z w h hok hs
      by_cases h3 : n = 1047
      · subst h3
        cases on with
        | false =>
          cases hs : s.swapped
          · exact refSet_1047ff s x y z w h hok hs
          · exact refSet_1047ft s x y z w h hok hs
        | true =>
          cases hs : s.swapped
          · exact refSet_1047tf s x y z w h hok hs
          · exact refSet_1047tt s x y z w h hok hs
      by_cases h4 : n = 1049
      · subst h4
        cases on with
        | false =>
          cases hs : s.swapped
          · exact refSet_1049ff s x y z w h hok hs
          · exact refSet_1049ft s x y z w h hok hs
        | true =>
          cases hs : s.swapped
          · exact refSet_1049tf s x y z w h hok hs
          · exact refSet_1049tt s x y z w h hok hs
      have e : setS s true n on = s := by
        unfold setS deedM
        rw [if_neg (by simp [h1]), if_neg (by simp [h2]), if_neg (by simp [h3]), if_neg (by simp [h4])]
        show putM s (bitOf true n) on = s
        rw [hb]; exact putM_zero hok on
      rw [e]
      exact refSet_other s x y z n on w h hok hb h1 h2 h3 h4
  · have e : setS s p n on = putM s (bitOf p n) on := by
      unfold setS deedM
      have k : ∀ m : Int, bitOf true m = 0 → ¬ (p = true ∧ n = m) := fun m hm q => by
        obtain ⟨rfl, rfl⟩ := q
        exact hb hm
      rw [if_neg (k 6 rfl), if_neg (k 47 rfl), if_neg (k 1047 rfl), if_neg (k 1049 rfl)]
      rfl
    rw [e]
    by_cases h1 : bitOf p n = 1
    · cases on with
      | false => exact refSet_fft s x y z p n _ w h hok rfl hb h1
      | true => exact refSet_ftt s x y z p n _ w h hok rfl hb h1
    · cases on with
      | false => exact refSet_fff s x y z p n _ w h hok rfl hb h1
      | true => exact refSet_ftf s x y z p n _ w h hok rfl hb h1
end Scr
end
end Go.Proofs.YtceaoadlhdgnmaaGreatDoor
