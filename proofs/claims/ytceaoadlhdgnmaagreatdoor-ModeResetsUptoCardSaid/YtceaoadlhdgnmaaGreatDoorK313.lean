/- Joined texts: MdMarg, MdReset, MdAlign, MdCopy, MdRefR. -/
import Derived.Test.YtceaoadlhdgnmaaGreatDoorK302
import Derived.Test.YtceaoadlhdgnmaaGreatDoorK303
import Derived.Deep.RegionLaw
import Derived.Deep.CutRange
import Derived.Deep.DeepCutAuto
import Derived.BigRegion
section
/- Margins: the developers', for whatever screen and numbers. -/
namespace Go.Proofs.YtceaoadlhdgnmaaGreatDoor
set_option maxRecDepth 100000
open Go.RowKit
namespace Scr
open Go.Proofs.YtceaoadlhdgnmaaGreatDoor.Row Wid

theorem Pv.cell2 {B c : Nat} {w0 w : World} {s : S} {x y z : Value} (h : Pv B c w0 s x y z w) (t b : Int) : Pv B c w0 (botS (topS s t) b) x y z ((w.setCell ⟨w0.heap.size, 37, none⟩ (.int .i64 t)).setCell ⟨w0.heap.size, 38, none⟩ (.int .i64 b)) :=
  h.to fun v e k => by
    have q := (k.top t).bot b
    rw [e] at q
    exact q
theorem Pv.put {B c C : Nat} {w0 w w' : World} {s X : S} {x y z x' y' z' : Value} (h : Pv B c w0 s x y z w) (ho : Own w C X x' y' z') (hC : w0.heap.size + 2 ≤ C) (hs : Sto w w0.heap.size (sarr X x' y' z') w') : Pv B c w0 X x' y' z' w' :=
  h.to fun v e k => (k.put ho (by omega) (by rw [e]; exact hs)).1
set_option maxHeartbeats 3200000 in
theorem marg_n0 (w0 : World) (B c : Nat) (s : S) (x y z : Value) (n m : Int) (a1 a2 : Nat) (w : World) (h : Pb w0 s x y z w) (hok : Ok s) (hT : ∀ W, Below B w0 W → Tabs W) (hB1 : B ≤ a1) (hB2 : B ≤ a2) (l1 : a1 < w0.heap.size) (l2 : a2 < w0.heap.size) (hne : a2 ≠ a1) (hc1 : c ≠ a1) (hc2 : c ≠ a2)
    (h1 : w.heap[a1]? = some (nbx n)) (h2 : w.heap[a2]? = some (nbx m)) (hm : m ≤ 0) (hn9 : n ≤ 9999) (hc : ¬ max n 1 < s.main.rows) :
    Calls Tryz.prog 71 #[.pointer (some ⟨w0.heap.size, 0, none⟩), .pointer (some ⟨a1, 0, none⟩), .pointer (some ⟨a2, 0, none⟩)] w fun e w' => e = .returned (.tuple #[]) ∧ ∃ x' y' z', Pv B c w0 (s) x' y' z' w' := by
  have HP0 : Hid (Pv B c w0 s x y z w) := Lib.hid (Pv.start h)
  have HT := Lib.hid hT
  have HOK := Lib.hid hok
  have HBB : Hid (B ≤ w0.heap.size) := Lib.hid (by omega)
  have c0 : w.cell? ⟨w0.heap.size, 0, none⟩ = some (.int .i64 s.main.rows) := h.pn.box.cell 0
  have c1 : w.cell? ⟨a1, 0, none⟩ = some (.int .i64 n) := Blk.cell h1 0
  have f1 : w.frozen? ⟨a1, 0, none⟩ = false := Blk.free h1 0
  have HP1 : Hid (Pv B c w0 s x y z (w.setCell ⟨a1, 0, none⟩ (.int .i64 (max n 1)))) := Lib.hid (HP0.out.side h1 hB1 l1 hc1 _)
  have HX1 : Hid ((w.setCell ⟨a1, 0, none⟩ (.int .i64 (max n 1))).heap[a1]? = some (nbx (max n 1))) := Lib.hid (Blk.set h1 0 _)
  have HX2 : Hid ((w.setCell ⟨a1, 0, none⟩ (.int .i64 (max n 1))).heap[a2]? = some (nbx m)) := Lib.hid (Blk.other h2 hne 0 _)
  have HF := Lib.hid hok.facts
  clear h hok hT h1 h2
  go_enter Tryz.func71, Tryz.ntmps71
  go_upto_region 2 with (fail)
  change Code.wp _ _ _ _ (w.setCell ⟨a1, 0, none⟩ (.int .i64 (max n 1)))
  clear c0 c1 f1 HP0
  generalize w.setCell ⟨a1, 0, none⟩ (.int .i64 (max n 1)) = w1 at HP1 HX1 HX2 ⊢
  have HN1 : Hid (max n 1 ≤ 9999 ∧ 1 ≤ max n 1) := Lib.hid (by omega)
  obtain ⟨N, hN⟩ : ∃ N, max n 1 = N := ⟨_, rfl⟩
  have HNE := Lib.hid hN
  rw [hN] at HX1 HN1 hc
  rw [hN]
  clear hN
  have c2 : w1.cell? ⟨a2, 0, none⟩ = some (.int .i64 m) := Blk.cell HX2.out 0
  have f2 : w1.frozen? ⟨a2, 0, none⟩ = false := Blk.free HX2.out 0
  have HP2 : Hid (Pv B c w0 s x y z (w1.setCell ⟨a2, 0, none⟩ (.int .i64 s.main.rows))) := Lib.hid (HP1.out.side HX2.out hB2 l2 hc2 _)
  have HY1 : Hid ((w1.setCell ⟨a2, 0, none⟩ (.int .i64 s.main.rows)).heap[a1]? = some (nbx N)) := Lib.hid (Blk.other HX1.out (Ne.symm hne) 0 _)
  have HY2 : Hid ((w1.setCell ⟨a2, 0, none⟩ (.int .i64 s.main.rows)).heap[a2]? = some (nbx s.main.rows)) := Lib.hid (Blk.set HX2.out 0 _)
  go_upto_region 4 with (fail)
  change Code.wp _ _ _ _ (w1.setCell ⟨a2, 0, none⟩ (.int .i64 s.main.rows))
  clear c2 f2 HP1 HX1 HX2
  generalize w1.setCell ⟨a2, 0, none⟩ (.int .i64 s.main.rows) = w2 at HP2 HY1 HY2 ⊢
  have c2 : w2.cell? ⟨a2, 0, none⟩ = some (.int .i64 s.main.rows) := Blk.cell HY2.out 0
  have c1 : w2.cell? ⟨a1, 0, none⟩ = some (.int .i64 N) := Blk.cell HY1.out 0
  go_wp2_with fail
  go_end0
  exact ⟨rfl, _, _, _, HP2.out⟩
set_option maxHeartbeats 3200000 in
theorem marg_n2 (w0 : World) (B c : Nat) (s : S) (x y z : Value) (n m : Int) (a1 a2 : Nat) (w : World) (h : Pb w0 s x y z w) (hok : Ok s) (hT : ∀ W, Below B w0 W → Tabs W) (hB1 : B ≤ a1) (hB2 : B ≤ a2) (l1 : a1 < w0.heap.size) (l2 : a2 < w0.heap.size) (hne : a2 ≠ a1) (hc1 : c ≠ a1) (hc2 : c ≠ a2)
    (h1 : w.heap[a1]? = some (nbx n)) (h2 : w.heap[a2]? = some (nbx m)) (hm : m ≤ 0) (hn9 : n ≤ 9999) (hc : max n 1 < s.main.rows)  :
    Calls Tryz.prog 71 #[.pointer (some ⟨w0.heap.size, 0, none⟩), .pointer (some ⟨a1, 0, none⟩), .pointer (some ⟨a2, 0, none⟩)] w fun e w' => e = .returned (.tuple #[]) ∧ ∃ x' y' z', Pv B c w0 (moveS (botS (topS s (max n 1 - 1)) (s.main.rows - 1)) 72 1 1) x' y' z' w' := by
  have HP0 : Hid (Pv B c w0 s x y z w) := Lib.hid (Pv.start h)
  have HT := Lib.hid hT
  have HOK := Lib.hid hok
  have HBB : Hid (B ≤ w0.heap.size) := Lib.hid (by omega)
  have c0 : w.cell? ⟨w0.heap.size, 0, none⟩ = some (.int .i64 s.main.rows) := h.pn.box.cell 0
  have c1 : w.cell? ⟨a1, 0, none⟩ = some (.int .i64 n) := Blk.cell h1 0
  have f1 : w.frozen? ⟨a1, 0, none⟩ = false := Blk.free h1 0
  have HP1 : Hid (Pv B c w0 s x y z (w.setCell ⟨a1, 0, none⟩ (.int .i64 (max n 1)))) := Lib.hid (HP0.out.side h1 hB1 l1 hc1 _)
  have HX1 : Hid ((w.setCell ⟨a1, 0, none⟩ (.int .i64 (max n 1))).heap[a1]? = some (nbx (max n 1))) := Lib.hid (Blk.set h1 0 _)
  have HX2 : Hid ((w.setCell ⟨a1, 0, none⟩ (.int .i64 (max n 1))).heap[a2]? = some (nbx m)) := Lib.hid (Blk.other h2 hne 0 _)
  have HF := Lib.hid hok.facts
  clear h hok hT h1 h2
  go_enter Tryz.func71, Tryz.ntmps71
  go_upto_region 2 with (fail)
  change Code.wp _ _ _ _ (w.setCell ⟨a1, 0, none⟩ (.int .i64 (max n 1)))
  clear c0 c1 f1 HP0
  generalize w.setCell ⟨a1, 0, none⟩ (.int .i64 (max n 1)) = w1 at HP1 HX1 HX2 ⊢
  have HN1 : Hid (max n 1 ≤ 9999 ∧ 1 ≤ max n 1) := Lib.hid (by omega)
  obtain ⟨N, hN⟩ : ∃ N, max n 1 = N := ⟨_, rfl⟩
  have HNE := Lib.hid hN
  rw [hN] at HX1 HN1 hc
  rw [hN]
  clear hN
  have c2 : w1.cell? ⟨a2, 0, none⟩ = some (.int .i64 m) := Blk.cell HX2.out 0
  have f2 : w1.frozen? ⟨a2, 0, none⟩ = false := Blk.free HX2.out 0
  have HP2 : Hid (Pv B c w0 s x y z (w1.setCell ⟨a2, 0, none⟩ (.int .i64 s.main.rows))) := Lib.hid (HP1.out.side HX2.out hB2 l2 hc2 _)
  have HY1 : Hid ((w1.setCell ⟨a2, 0, none⟩ (.int .i64 s.main.rows)).heap[a1]? = some (nbx N)) := Lib.hid (Blk.other HX1.out (Ne.symm hne) 0 _)
  have HY2 : Hid ((w1.setCell ⟨a2, 0, none⟩ (.int .i64 s.main.rows)).heap[a2]? = some (nbx s.main.rows)) := Lib.hid (Blk.set HX2.out 0 _)
  go_upto_region 4 with (fail)
  change Code.wp _ _ _ _ (w1.setCell ⟨a2, 0, none⟩ (.int .i64 s.main.rows))
  clear c2 f2 HP1 HX1 HX2
  generalize w1.setCell ⟨a2, 0, none⟩ (.int .i64 s.main.rows) = w2 at HP2 HY1 HY2 ⊢
  have c2 : w2.cell? ⟨a2, 0, none⟩ = some (.int .i64 s.main.rows) := Blk.cell HY2.out 0
  have c1 : w2.cell? ⟨a1, 0, none⟩ = some (.int .i64 N) := Blk.cell HY1.out 0
  have HR40 : Hid (s.main.rows ≤ 40) := Lib.hid HF.out.r40
  have hw1 : IntKind.i64.wrap (N - 1) = N - 1 := by have := HN1.out; rw [IntKind.wrap_i64]; omega
  have hw2 : IntKind.i64.wrap (s.main.rows - 1) = s.main.rows - 1 := by have := HR40.out; have := HN1.out; rw [IntKind.wrap_i64]; omega
  go_upto_region 5 with (fail)
  have q37 : w2.cell? ⟨w0.heap.size, 37, none⟩ = some (.int .i64 s.top) := HP2.out.pn.box.cell 37
  have q38 : w2.cell? ⟨w0.heap.size, 38, none⟩ = some (.int .i64 s.bottom) := HP2.out.pn.box.cell 38
  have fq : ∀ j, w2.frozen? ⟨w0.heap.size, j, none⟩ = false := HP2.out.pn.box.free
  go_region
  all_goals
    change Exit.then _ _ _ _ ((w2.setCell ⟨w0.heap.size, 37, none⟩ (.int .i64 (N - 1))).setCell ⟨w0.heap.size, 38, none⟩ (.int .i64 (s.main.rows - 1))).drew
    have H3 := Lib.hid ((HP2.out.cell2 (N - 1) (s.main.rows - 1)).kept (Below.refl _ _).drew)
    have HOK3 : Hid (Ok (botS (topS s (N - 1)) (s.main.rows - 1))) := Lib.hid (tops_ok HOK.out (t := N - 1) (b := s.main.rows - 1) (by have := HN1.out; omega) (by omega) (by omega))
    clear q37 q38 fq c1 c2
    generalize ((w2.setCell ⟨w0.heap.size, 37, none⟩ (.int .i64 (N - 1))).setCell ⟨w0.heap.size, 38, none⟩ (.int .i64 (s.main.rows - 1))).drew = w3 at H3 ⊢
    go_wp2_with (refine wp_loadS (b := w0.heap.size) (s := botS (topS s (N - 1)) (s.main.rows - 1)) rfl rfl rfl H3.out.pn.box ?_)
    refine (homeD (botS (topS s (N - 1)) (s.main.rows - 1)) x y z w3 H3.out.pn.own.in_ HOK3.out.holds (HT.out _ (H3.out.bel HBB.out))).mono ?_; rintro e w4 ⟨X, x4, y4, z4, code, rfl, hans⟩
    obtain rfl := hans.yes ((ok_iff _).2 HOK3.out)
    have H4 := Lib.hid (H3.out.kept hans.bel)
    have HW := Lib.hid hans.own
    have HU := Lib.hid H3.out.pn.up
    clear hans H3
    go_wp2_with (refine wp_storeS (b := w0.heap.size) (A := sarr (homeS (botS (topS s (N - 1)) (s.main.rows - 1))) x4 y4 z4) rfl rfl rfl rfl rfl HW.out.in_.one H4.out.pn.box rfl ?_; intro w5 h5)
    go_end0
    have hq := H4.out.put HW.out HU.out h5
    rw [← HNE.out] at hq
    exact ⟨rfl, _, _, _, hq⟩
set_option maxHeartbeats 3200000 in
theorem marg_m0 (w0 : World) (B c : Nat) (s : S) (x y z : Value) (n m : Int) (a1 a2 : Nat) (w : World) (h : Pb w0 s x y z w) (hok : Ok s) (hT : ∀ W, Below B w0 W → Tabs W) (hB1 : B ≤ a1) (l1 : a1 < w0.heap.size) (hne : a2 ≠ a1) (hc1 : c ≠ a1)
    (h1 : w.heap[a1]? = some (nbx n)) (h2 : w.heap[a2]? = some (nbx m)) (hm : ¬ m ≤ 0) (hn9 : n ≤ 9999) (hc : ¬ max n 1 < m) :
    Calls Tryz.prog 71 #[.pointer (some ⟨w0.heap.size, 0, none⟩), .pointer (some ⟨a1, 0, none⟩), .pointer (some ⟨a2, 0, none⟩)] w fun e w' => e = .returned (.tuple #[]) ∧ ∃ x' y' z', Pv B c w0 (s) x' y' z' w' := by
  have HP0 : Hid (Pv B c w0 s x y z w) := Lib.hid (Pv.start h)
  have HT := Lib.hid hT
  have HOK := Lib.hid hok
  have HBB : Hid (B ≤ w0.heap.size) := Lib.hid (by omega)
  have c0 : w.cell? ⟨w0.heap.size, 0, none⟩ = some (.int .i64 s.main.rows) := h.pn.box.cell 0
  have c1 : w.cell? ⟨a1, 0, none⟩ = some (.int .i64 n) := Blk.cell h1 0
  have f1 : w.frozen? ⟨a1, 0, none⟩ = false := Blk.free h1 0
  have HP1 : Hid (Pv B c w0 s x y z (w.setCell ⟨a1, 0, none⟩ (.int .i64 (max n 1)))) := Lib.hid (HP0.out.side h1 hB1 l1 hc1 _)
  have HX1 : Hid ((w.setCell ⟨a1, 0, none⟩ (.int .i64 (max n 1))).heap[a1]? = some (nbx (max n 1))) := Lib.hid (Blk.set h1 0 _)
  have HX2 : Hid ((w.setCell ⟨a1, 0, none⟩ (.int .i64 (max n 1))).heap[a2]? = some (nbx m)) := Lib.hid (Blk.other h2 hne 0 _)
  have HF := Lib.hid hok.facts
  clear h hok hT h1 h2
  go_enter Tryz.func71, Tryz.ntmps71
  go_upto_region 2 with (fail)
  change Code.wp _ _ _ _ (w.setCell ⟨a1, 0, none⟩ (.int .i64 (max n 1)))
  clear c0 c1 f1 HP0
  generalize w.setCell ⟨a1, 0, none⟩ (.int .i64 (max n 1)) = w1 at HP1 HX1 HX2 ⊢
  have HN1 : Hid (max n 1 ≤ 9999 ∧ 1 ≤ max n 1) := Lib.hid (by omega)
  obtain ⟨N, hN⟩ : ∃ N, max n 1 = N := ⟨_, rfl⟩
  have HNE := Lib.hid hN
  rw [hN] at HX1 HN1 hc
  rw [hN]
  clear hN
  have c2 : w1.cell? ⟨a2, 0, none⟩ = some (.int .i64 m) := Blk.cell HX2.out 0
  have c1 : w1.cell? ⟨a1, 0, none⟩ = some (.int .i64 N) := Blk.cell HX1.out 0
  go_wp2_with fail
  go_end0
  exact ⟨rfl, _, _, _, HP1.out⟩
set_option maxHeartbeats 3200000 in
theorem marg_m1 (w0 : World) (B c : Nat) (s : S) (x y z : Value) (n m : Int) (a1 a2 : Nat) (w : World) (h : Pb w0 s x y z w) (hok : Ok s) (hT : ∀ W, Below B w0 W → Tabs W) (hB1 : B ≤ a1) (l1 : a1 < w0.heap.size) (hne : a2 ≠ a1) (hc1 : c ≠ a1)
    (h1 : w.heap[a1]? = some (nbx n)) (h2 : w.heap[a2]? = some (nbx m)) (hm : ¬ m ≤ 0) (hn9 : n ≤ 9999) (hc : max n 1 < m) (hr : ¬ m ≤ s.main.rows) :
    Calls Tryz.prog 71 #[.pointer (some ⟨w0.heap.size, 0, none⟩), .pointer (some ⟨a1, 0, none⟩), .pointer (some ⟨a2, 0, none⟩)] w fun e w' => e = .returned (.tuple #[]) ∧ ∃ x' y' z', Pv B c w0 (s) x' y' z' w' := by
  have HP0 : Hid (Pv B c w0 s x y z w) := Lib.hid (Pv.start h)
  have HT := Lib.hid hT
  have HOK := Lib.hid hok
  have HBB : Hid (B ≤ w0.heap.size) := Lib.hid (by omega)
  have c0 : w.cell? ⟨w0.heap.size, 0, none⟩ = some (.int .i64 s.main.rows) := h.pn.box.cell 0
  have c1 : w.cell? ⟨a1, 0, none⟩ = some (.int .i64 n) := Blk.cell h1 0
  have f1 : w.frozen? ⟨a1, 0, none⟩ = false := Blk.free h1 0
  have HP1 : Hid (Pv B c w0 s x y z (w.setCell ⟨a1, 0, none⟩ (.int .i64 (max n 1)))) := Lib.hid (HP0.out.side h1 hB1 l1 hc1 _)
  have HX1 : Hid ((w.setCell ⟨a1, 0, none⟩ (.int .i64 (max n 1))).heap[a1]? = some (nbx (max n 1))) := Lib.hid (Blk.set h1 0 _)
  have HX2 : Hid ((w.setCell ⟨a1, 0, none⟩ (.int .i64 (max n 1))).heap[a2]? = some (nbx m)) := Lib.hid (Blk.other h2 hne 0 _)
  have HF := Lib.hid hok.facts
  clear h hok hT h1 h2
  go_enter Tryz.func71, Tryz.ntmps71
  go_upto_region 2 with (fail)
  change Code.wp _ _ _ _ (w.setCell ⟨a1, 0, none⟩ (.int .i64 (max n 1)))
  clear c0 c1 f1 HP0
  generalize w.setCell ⟨a1, 0, none⟩ (.int .i64 (max n 1)) = w1 at HP1 HX1 HX2 ⊢
  have HN1 : Hid (max n 1 ≤ 9999 ∧ 1 ≤ max n 1) := Lib.hid (by omega)
  obtain ⟨N, hN⟩ : ∃ N, max n 1 = N := ⟨_, rfl⟩
  have HNE := Lib.hid hN
  rw [hN] at HX1 HN1 hc
  rw [hN]
  clear hN
  have c2 : w1.cell? ⟨a2, 0, none⟩ = some (.int .i64 m) := Blk.cell HX2.out 0
  have c1 : w1.cell? ⟨a1, 0, none⟩ = some (.int .i64 N) := Blk.cell HX1.out 0
  go_wp2_with fail
  go_end0
  exact ⟨rfl, _, _, _, HP1.out⟩
set_option maxHeartbeats 3200000 in
theorem marg_m2 (w0 : World) (B c : Nat) (s : S) (x y z : Value) (n m : Int) (a1 a2 : Nat) (w : World) (h : Pb w0 s x y z w) (hok : Ok s) (hT : ∀ W, Below B w0 W → Tabs W) (hB1 : B ≤ a1) (l1 : a1 < w0.heap.size) (hne : a2 ≠ a1) (hc1 : c ≠ a1)
    (h1 : w.heap[a1]? = some (nbx n)) (h2 : w.heap[a2]? = some (nbx m)) (hm : ¬ m ≤ 0) (hn9 : n ≤ 9999) (hc : max n 1 < m) (hr : m ≤ s.main.rows) :
    Calls Tryz.prog 71 #[.pointer (some ⟨w0.heap.size, 0, none⟩), .pointer (some ⟨a1, 0, none⟩), .pointer (some ⟨a2, 0, none⟩)] w fun e w' => e = .returned (.tuple #[]) ∧ ∃ x' y' z', Pv B c w0 (moveS (botS (topS s (max n 1 - 1)) (m - 1)) 72 1 1) x' y' z' w' := by
  have HP0 : Hid (Pv B c w0 s x y z w) := Lib.hid (Pv.start h)
  have HT := Lib.hid hT
  have HOK := Lib.hid hok
  have HBB : Hid (B ≤ w0.heap.size) := Lib.hid (by omega)
  have c0 : w.cell? ⟨w0.heap.size, 0, none⟩ = some (.int .i64 s.main.rows) := h.pn.box.cell 0
  have c1 : w.cell? ⟨a1, 0, none⟩ = some (.int .i64 n) := Blk.cell h1 0
  have f1 : w.frozen? ⟨a1, 0, none⟩ = false := Blk.free h1 0
  have HP1 : Hid (Pv B c w0 s x y z (w.setCell ⟨a1, 0, none⟩ (.int .i64 (max n 1)))) := Lib.hid (HP0.out.side h1 hB1 l1 hc1 _)
  have HX1 : Hid ((w.setCell ⟨a1, 0, none⟩ (.int .i64 (max n 1))).heap[a1]? = some (nbx (max n 1))) := Lib.hid (Blk.set h1 0 _)
  have HX2 : Hid ((w.setCell ⟨a1, 0, none⟩ (.int .i64 (max n 1))).heap[a2]? = some (nbx m)) := Lib.hid (Blk.other h2 hne 0 _)
  have HF := Lib.hid hok.facts
  clear h hok hT h1 h2
  go_enter Tryz.func71, Tryz.ntmps71
  go_upto_region 2 with (fail)
  change Code.wp _ _ _ _ (w.setCell ⟨a1, 0, none⟩ (.int .i64 (max n 1)))
  clear c0 c1 f1 HP0
  generalize w.setCell ⟨a1, 0, none⟩ (.int .i64 (max n 1)) = w1 at HP1 HX1 HX2 ⊢
  have HN1 : Hid (max n 1 ≤ 9999 ∧ 1 ≤ max n 1) := Lib.hid (by omega)
  obtain ⟨N, hN⟩ : ∃ N, max n 1 = N := ⟨_, rfl⟩
  have HNE := Lib.hid hN
  rw [hN] at HX1 HN1 hc
  rw [hN]
  clear hN
  have c2 : w1.cell? ⟨a2, 0, none⟩ = some (.int .i64 m) := Blk.cell HX2.out 0
  have c1 : w1.cell? ⟨a1, 0, none⟩ = some (.int .i64 N) := Blk.cell HX1.out 0
  have HR40 : Hid (s.main.rows ≤ 40) := Lib.hid HF.out.r40
  have hw1 : IntKind.i64.wrap (N - 1) = N - 1 := by have := HN1.out; rw [IntKind.wrap_i64]; omega
  have hw2 : IntKind.i64.wrap (m - 1) = m - 1 := by have := HR40.out; have := HN1.out; rw [IntKind.wrap_i64]; omega
  go_upto_region 5 with (fail)
  have q37 : w1.cell? ⟨w0.heap.size, 37, none⟩ = some (.int .i64 s.top) := HP1.out.pn.box.cell 37
  have q38 : w1.cell? ⟨w0.heap.size, 38, none⟩ = some (.int .i64 s.bottom) := HP1.out.pn.box.cell 38
  have fq : ∀ j, w1.frozen? ⟨w0.heap.size, j, none⟩ = false := HP1.out.pn.box.free
  go_region
  all_goals
    change Exit.then _ _ _ _ ((w1.setCell ⟨w0.heap.size, 37, none⟩ (.int .i64 (N - 1))).setCell ⟨w0.heap.size, 38, none⟩ (.int .i64 (m - 1))).drew
    have H3 := Lib.hid ((HP1.out.cell2 (N - 1) (m - 1)).kept (Below.refl _ _).drew)
    have HOK3 : Hid (Ok (botS (topS s (N - 1)) (m - 1))) := Lib.hid (tops_ok HOK.out (t := N - 1) (b := m - 1) (by have := HN1.out; omega) (by omega) (by omega))
    clear q37 q38 fq c1 c2
    generalize ((w1.setCell ⟨w0.heap.size, 37, none⟩ (.int .i64 (N - 1))).setCell ⟨w0.heap.size, 38, none⟩ (.int .i64 (m - 1))).drew = w3 at H3 ⊢
    go_wp2_with (refine wp_loadS (b := w0.heap.size) (s := botS (topS s (N - 1)) (m - 1)) rfl rfl rfl H3.out.pn.box ?_)
    refine (homeD (botS (topS s (N - 1)) (m - 1)) x y z w3 H3.out.pn.own.in_ HOK3.out.holds (HT.out _ (H3.out.bel HBB.out))).mono ?_; rintro e w4 ⟨X, x4, y4, z4, code, rfl, hans⟩
    obtain rfl := hans.yes ((ok_iff _).2 HOK3.out)
    have H4 := Lib.hid (H3.out.kept hans.bel)
    have HW := Lib.hid hans.own
    have HU := Lib.hid H3.out.pn.up
    clear hans H3
    go_wp2_with (refine wp_storeS (b := w0.heap.size) (A := sarr (homeS (botS (topS s (N - 1)) (m - 1))) x4 y4 z4) rfl rfl rfl rfl rfl HW.out.in_.one H4.out.pn.box rfl ?_; intro w5 h5)
    go_end0
    have hq := H4.out.put HW.out HU.out h5
    rw [← HNE.out] at hq
    exact ⟨rfl, _, _, _, hq⟩
theorem marg_any (w0 : World) (B c : Nat) (s : S) (x y z : Value) (n m : Int) (a1 a2 : Nat) (w : World) (h : Pb w0 s x y z w) (hok : Ok s) (hT : ∀ W, Below B w0 W → Tabs W) (hB1 : B ≤ a1) (hB2 : B ≤ a2) (l1 : a1 < w0.heap.size) (l2 : a2 < w0.heap.size) (hne : a2 ≠ a1) (hc1 : c ≠ a1) (hc2 : c ≠ a2)
    (h1 : w.heap[a1]? = some (nbx n)) (h2 : w.heap[a2]? = some (nbx m)) (hn9 : n ≤ 9999) :
    Calls Tryz.prog 71 #[.pointer (some ⟨w0.heap.size, 0, none⟩), .pointer (some ⟨a1, 0, none⟩), .pointer (some ⟨a2, 0, none⟩)] w fun e w' => e = .returned (.tuple #[]) ∧ ∃ x' y' z', Pv B c w0 (marginsS s n m) x' y' z' w' := by
  unfold marginsS
  by_cases hm : m ≤ 0
  · rw [if_pos hm]
    by_cases hc : max n 1 < s.main.rows
    · rw [if_pos ⟨hc, Int.le_refl _⟩]
      exact marg_n2 w0 B c s x y z n m a1 a2 w h hok hT hB1 hB2 l1 l2 hne hc1 hc2 h1 h2 hm hn9 hc
    · rw [if_neg (fun q => hc q.1)]
      exact marg_n0 w0 B c s x y z n m a1 a2 w h hok hT hB1 hB2 l1 l2 hne hc1 hc2 h1 h2 hm hn9 hc
  · rw [if_neg hm]
    by_cases hc : max n 1 < m
    · by_cases hr : m ≤ s.main.rows
      · rw [if_pos ⟨hc, hr⟩]
        exact marg_m2 w0 B c s x y z n m a1 a2 w h hok hT hB1 l1 hne hc1 h1 h2 hm hn9 hc hr
      · rw [if_neg (fun q => hr q.2)]
        exact marg_m1 w0 B c s x y z n m a1 a2 w h hok hT hB1 l1 hne hc1 h1 h2 hm hn9 hc hr
    · rw [if_neg (fun q => hc q.1)]
      exact marg_m0 w0 B c s x y z n m a1 a2 w h hok hT hB1 l1 hne hc1 h1 h2 hm hn9 hc
abbrev w4S (w : World) (s : S) (x y z : Value) (n m : Int) : World := (((w.alloc (sbx s x y z)).alloc (nbx n)).alloc (nbx m)).alloc zbx
theorem w4S_facts (w : World) (s : S) (x y z : Value) (n m : Int) : Sb w (w.heap.size + 3) s x y z (w4S w s x y z n m) ∧ (w4S w s x y z n m).heap[w.heap.size + 1]? = some (nbx n) ∧ (w4S w s x y z n m).heap[w.heap.size + 1 + 1]? = some (nbx m) := by
  have h1 := bel_alloc w (sbx s x y z)
  have h2 := bel_alloc (w.alloc (sbx s x y z)) (nbx n)
  have h3 := bel_alloc ((w.alloc (sbx s x y z)).alloc (nbx n)) (nbx m)
  have h4 := bel_alloc (((w.alloc (sbx s x y z)).alloc (nbx n)).alloc (nbx m)) zbx
  have e2 : (w.alloc (sbx s x y z)).heap.size = w.heap.size + 1 := by simp
  have e3 : ((w.alloc (sbx s x y z)).alloc (nbx n)).heap.size = w.heap.size + 1 + 1 := by simp
  have e4 : (((w.alloc (sbx s x y z)).alloc (nbx n)).alloc (nbx m)).heap.size = w.heap.size + 3 := by simp
  have x1 : (w.alloc (sbx s x y z)).heap[w.heap.size]? = some (sbx s x y z) := heap_alloc_new _ _
  have x2 : ((w.alloc (sbx s x y z)).alloc (nbx n)).heap[w.heap.size + 1]? = some (nbx n) := by rw [← e2]; exact heap_alloc_new _ _
  have x3 : (((w.alloc (sbx s x y z)).alloc (nbx n)).alloc (nbx m)).heap[w.heap.size + 1 + 1]? = some (nbx m) := by rw [← e3]; exact heap_alloc_new _ _
  have x4 : (w4S w s x y z n m).heap[w.heap.size + 3]? = some zbx := by show (World.alloc _ _).heap[w.heap.size + 3]? = _; rw [← e4]; exact heap_alloc_new _ _
  exact ⟨⟨h1.trans ((h2.trans ((h3.trans (h4.mono h3.size)).mono h2.size)).mono h1.size), Blk.kept (Blk.kept (Blk.kept x1 h2) h3) h4, x4, by omega⟩, Blk.kept (Blk.kept x2 h3) h4, Blk.kept x3 h4⟩
set_option maxHeartbeats 6400000 in
theorem marginsD (s : S) (x y z : Value) (n m : Int) (w : World) (h : In w s x y z) (hh : Holds s) (hT : Tabs w) :
    Calls Tryz.prog 24 #[sv s x y z, .int .i64 n, .int .i64 m] w fun e w' => ∃ X x' y' z' code, e = .returned (.tuple #[sv X x' y' z', .int .i64 code]) ∧ Ans w w' (okB s && (numB n && numB m)) (marginsS s n m) X x' y' z' code := by
  obtain ⟨hS, k1, k2⟩ := w4S_facts w s x y z n m
  have HS := Lib.hid hS
  have HI := Lib.hid (h.kept hS.bel)
  have HT := Lib.hid (hT.kept hS.bel)
  have HTB : Hid (∀ W, Below w.heap.size (w4S w s x y z n m) W → Tabs W) := Lib.hid fun W hb => hT.kept (hS.bel.trans hb)
  have HH := Lib.hid hh
  have HK1 := Lib.hid k1
  have HK2 := Lib.hid k2
  have q1 : (w4S w s x y z n m).cell? ⟨w.heap.size + 1, 0, none⟩ = some (.int .i64 n) := Blk.cell k1 0
  have q2 : (w4S w s x y z n m).cell? ⟨w.heap.size + 1 + 1, 0, none⟩ = some (.int .i64 m) := Blk.cell k2 0
  have HLT : Hid (w.heap.size ≤ (w4S w s x y z n m).heap.size ∧ w.heap.size + 3 < (w4S w s x y z n m).heap.size) := Lib.hid ⟨hS.bel.size, Blk.lt hS.bc⟩
  clear h hh hT hS k1 k2
  go_enter Tryz.func24, Tryz.ntmps24
  go_upto_region 1 with (refine wp_allocS3 rfl rfl ?_)
  go_simp
  change Code.wp _ _ _ _ (w4S w s x y z n m)
  generalize w4S w s x y z n m = w4 at HS HI HT HTB HK1 HK2 q1 q2 HLT ⊢
  have HCL : Hid (okB s = true → numB n = true → ∀ W x' y' z', Pb w4 s x' y' z' W → Apart x' y' → _) := Lib.hid (fun hok hn W x' y' z' k _ => marg_any w4 w.heap.size (w.heap.size + 3) s x' y' z' n m (w.heap.size + 1) (w.heap.size + 1 + 1) W k ((ok_iff s).1 hok) HTB.out (by omega) (by omega) (by have := HLT.out; omega) (by have := HLT.out; omega) (by omega) (by omega) (by omega) (Blk.kept HK1.out k.bel) (Blk.kept HK2.out k.bel) (numB_iff.1 hn).2)
  cases hn : numB n
  · have HM : Hid ((okB s && (numB n && numB m)) = false) := Lib.hid (by rw [hn, Bool.false_and, Bool.and_false])
    go_wp2_with fail
    refine (isCountM_any n w4).mono ?_; rintro e w5' ⟨rfl, rfl⟩
    rw [hn]
    go_wp2_with (refine wp_storeS (b := w.heap.size + 3) (A := zarr) rfl rfl rfl rfl rfl (sarr_one rfl rfl rfl) HS.out.bc rfl ?_; intro w7 h7)
    refine bodyPost_ret (ret2S (s := noS) (x := nilS) (y := nilS) (z := nilS) rfl rfl h7.box rfl) rfl ?_
    exact ⟨_, _, _, _, _, rfl, ans_no HM.out (h7.below _ _ (Nat.le_of_lt HS.out.lt) HS.out.bel)⟩
  · cases hm : numB m
    · have HM : Hid ((okB s && (numB n && numB m)) = false) := Lib.hid (by rw [hm, Bool.and_false, Bool.and_false])
      go_wp2_with fail
      refine (isCountM_any n w4).mono ?_; rintro e w5' ⟨rfl, rfl⟩
      rw [hn]
      go_wp2_with fail
      refine (isCountM_any m w4).mono ?_; rintro e w5' ⟨rfl, rfl⟩
      rw [hm]
      go_wp2_with (refine wp_storeS (b := w.heap.size + 3) (A := zarr) rfl rfl rfl rfl rfl (sarr_one rfl rfl rfl) HS.out.bc rfl ?_; intro w7 h7)
      refine bodyPost_ret (ret2S (s := noS) (x := nilS) (y := nilS) (z := nilS) rfl rfl h7.box rfl) rfl ?_
      exact ⟨_, _, _, _, _, rfl, ans_no HM.out (h7.below _ _ (Nat.le_of_lt HS.out.lt) HS.out.bel)⟩
    · have HM : Hid ((okB s && (numB n && numB m)) = okB s) := Lib.hid (by rw [hn, hm, Bool.and_true, Bool.and_true])
      have HNN := Lib.hid hn
      go_wp2_with fail
      refine (isCountM_any n w4).mono ?_; rintro e w5' ⟨rfl, rfl⟩
      rw [hn]
      go_wp2_with fail
      refine (isCountM_any m w4).mono ?_; rintro e w5' ⟨rfl, rfl⟩
      rw [hm]
      go_wp2_with (refine wp_loadS (b := w.heap.size) (s := s) rfl rfl rfl HS.out.b0 ?_)
      cases hok : okB s
      · refine (changedM_no _ s x y z _ HI.out HH.out HT.out hok).mono ?_; rintro e w6 ⟨rfl, hb⟩
        have H6 := Lib.hid (HS.out.kept hb)
        clear hb
        go_wp2_with (refine wp_storeS (b := w.heap.size + 3) (A := zarr) rfl rfl rfl rfl rfl (sarr_one rfl rfl rfl) H6.out.bc rfl ?_; intro w7 h7)
        refine bodyPost_ret (ret2S (s := noS) (x := nilS) (y := nilS) (z := nilS) rfl rfl h7.box rfl) rfl ?_
        exact ⟨_, _, _, _, _, rfl, ans_no (HM.out.trans hok) (h7.below _ _ (Nat.le_of_lt H6.out.lt) H6.out.bel)⟩
      · refine (changedM_margins _ _ w.heap.size (w.heap.size + 3) s (marginsS s n m) x y z _ HI.out HH.out HT.out hok HLT.out.1 HLT.out.2 (HCL.out hok HNN.out)).mono ?_; rintro e w6 ⟨x6, y6, z6, rfl, ho, hb, hc⟩
        have HX : Hid (w6.heap[w.heap.size + 3]? = some zbx) := Lib.hid (hc.trans HS.out.bc)
        have HO := Lib.hid ho
        have HB6 := Lib.hid (HS.out.bel.trans hb)
        have HSZ := Lib.hid HS.out.bel.size
        clear ho hb hc
        go_wp2_with (refine wp_storeS (b := w.heap.size + 3) rfl rfl rfl rfl rfl HO.out.in_.one HX.out rfl ?_; intro w9 h9)
        refine bodyPost_ret (ret2S rfl rfl h9.box rfl) rfl ?_
        exact ⟨_, _, _, _, _, rfl, h9.below _ _ (Nat.le_of_lt HS.out.lt) HB6.out, Own.low (h9.own2 HX.out HO.out) HSZ.out, by rw [HM.out, hok]; rfl, fun _ => rfl, fun e => by rw [HM.out, hok] at e; cases e⟩
end Scr
end Go.Proofs.YtceaoadlhdgnmaaGreatDoor
end
section
/- Resets and the pattern: the developers' Soft, Hard, Align, for whatever screen. -/
namespace Go.Proofs.YtceaoadlhdgnmaaGreatDoor
set_option maxRecDepth 100000
open Go.RowKit
namespace Scr
open Go.Proofs.YtceaoadlhdgnmaaGreatDoor.Row Wid

/-- The screen's box, and a new screen in another. -/
structure Fb (w0 : World) (bf R C : Nat) (xf yf zf : Value) (s : S) (x y z : Value) (w : World) : Prop where
  pb : Pb w0 s x y z w
  fb : SBox w bf (newS R C) xf yf zf
  ne : bf ≠ w0.heap.size
theorem Fb.kept {w0 w w' : World} {bf R C : Nat} {xf yf zf : Value} {s : S} {x y z : Value} (h : Fb w0 bf R C xf yf zf s x y z w) (hb : Below w.heap.size w w') : Fb w0 bf R C xf yf zf s x y z w' := ⟨h.pb.kept hb, h.fb.kept hb, h.ne⟩
theorem Fb.to {w0 w w' : World} {bf R C : Nat} {xf yf zf : Value} {s s' : S} {x y z x' y' z' : Value} (h : Fb w0 bf R C xf yf zf s x y z w) (hp : Pb w0 s' x' y' z' w') (ho : Only w0.heap.size w w') : Fb w0 bf R C xf yf zf s' x' y' z' w' := ⟨hp, ho.2 _ _ h.ne h.fb, h.ne⟩
def softC (s : S) : Cur := ⟨s.cur.row, s.cur.col, false, plain, 0, 0, 0, false⟩
def soft1 (s : S) : S := withM s (bits .or .i64 9 (bits .and .i64 s.modes 960))
def soft2 (s : S) : S := withC (soft1 s) (softC s)
def soft3 (s : S) : S := { soft2 s with saved := first, too := first }
theorem Pb.cell2 {w0 w : World} {s : S} {x y z : Value} (h : Pb w0 s x y z w) (t b : Int) : Pb w0 (botS (topS s t) b) x y z ((w.setCell ⟨w0.heap.size, 37, none⟩ (.int .i64 t)).setCell ⟨w0.heap.size, 38, none⟩ (.int .i64 b)) := (h.top t).bot b
theorem only2 {b : Nat} {w : World} (i j : Nat) (u v : Value) : Only b w ((w.setCell ⟨b, i, none⟩ u).setCell ⟨b, j, none⟩ v) := ((Only.refl b w).set _ _).set _ _
theorem Pb.sto {w0 w w' : World} {s : S} {x y z : Value} {b : Nat} {A old : Array Value} (h : Pb w0 s x y z w) (hs : Sto w b A w') (hb : w0.heap.size + 2 ≤ b) (hx : w.heap[b]? = some (.cells old 36 (0, 0))) : Pb w0 s x y z w' :=
  ⟨⟨(hs.other _ (by omega)).trans h.pn.box, hs.own2 hx h.pn.own, h.pn.lt, by rw [hs.size]; exact h.pn.up⟩, (hs.other _ (by omega)).trans h.b1, hs.below _ _ (by omega) h.bel⟩
set_option maxHeartbeats 6400000 in
theorem soft_clo (w0 : World) (s : S) (x y z : Value) (w : World) (h : Pb w0 s x y z w) (hok : Ok s) :
    Calls Tryz.prog 72 #[.pointer (some ⟨w0.heap.size, 0, none⟩)] w fun e w' => e = .returned (.tuple #[]) ∧ ∃ x' y' z', Pb w0 (softS s) x' y' z' w' := by
  obtain ⟨R, C, hR, hC, h1, h2, h3, h4⟩ := hok.size
  have HN := Lib.hid (fun W => new_any R C W h1 h2 h3 h4)
  have HE : Hid (softS s = botS (topS (soft3 s) 0) ((R : Int) - 1)) := Lib.hid (by rw [← hR]; rfl)
  rw [HE.out]
  have H0 := Lib.hid h
  have HQ : Hid (∀ W, Pb w0 s x y z W → W.cell? ⟨w0.heap.size, 0, none⟩ = some (.int .i64 R) ∧ W.cell? ⟨w0.heap.size, 1, none⟩ = some (.int .i64 C)) := Lib.hid fun W k =>
    ⟨by have t := k.pn.box.cell 0; rw [sarr_0, hR] at t; exact t, by have t := k.pn.box.cell 1; rw [sarr_1, hC] at t; exact t⟩
  clear h hok hR hC h1 h2 h3 h4 HE
  go_enter Tryz.func72, Tryz.ntmps72
  go_upto_region 0 with (fail)
  go_cut [2] from 3 to 17 (fun s2 wx => ∃ bf xf yf zf, s2 = .pointer (some ⟨bf, 0, none⟩) ∧ Hid (Fb w0 bf R C xf yf zf s x y z wx))
  case first =>
    have HD := Lib.hid (H0.out.kept (Below.refl _ _).drew)
    have q0 := HQ.out _ HD.out
    refine wp_region_held_drew (S := fun w' => w'.cell? ⟨w0.heap.size, 0, none⟩ = some (.int .i64 R) ∧ w'.cell? ⟨w0.heap.size, 1, none⟩ = some (.int .i64 C)) (by kernel_rfl) q0 (fun hHeld => ?_)
    generalize w.drew = wd at HD q0 ⊢
    refine wpAnyH_take (i := 0) (v := ?_) rfl (by kernel_rfl) (by kernel_rfl) (by kernel_rfl) (fun _ _ _ h => h) (Or.inl ⟨by rfl, ?_⟩) (by assumption) ?_
    rotate_left
    · intro w' hSw; first | (go_simp; done) | (go_simp; with_reducible rfl)
    simp only [Act.put, List.getElem_toArray, List.getElem_cons_zero, List.setIfInBounds_toArray, List.set_cons_zero, List.set_cons_succ]
    refine wpAnyH_take (i := 1) (v := ?_) rfl (by kernel_rfl) (by kernel_rfl) (by kernel_rfl) (fun _ _ _ h => h) (Or.inl ⟨by rfl, ?_⟩) (by assumption) ?_
    rotate_left
    · intro w' hSw; first | (go_simp; done) | (go_simp; with_reducible rfl)
    simp only [Act.put, List.getElem_toArray, List.getElem_cons_zero, List.getElem_cons_succ, List.setIfInBounds_toArray, List.set_cons_zero, List.set_cons_succ]
    refine wpAnyH_take (i := 2) (v := ?_) rfl (by kernel_rfl) (by kernel_rfl) (by kernel_rfl) (fun _ _ _ h => h) (Or.inl ⟨by rfl, ?_⟩) (by assumption) ?_
    rotate_left
    · intro w' hSw; first | (go_simp; done) | (go_simp; with_reducible rfl)
    simp only [Act.put, List.getElem_toArray, List.getElem_cons_zero, List.getElem_cons_succ, List.setIfInBounds_toArray, List.set_cons_zero, List.set_cons_succ]
    refine wpAnyH_take (i := 3) (v := ?_) rfl (by kernel_rfl) (by kernel_rfl) (by kernel_rfl) (fun _ _ _ h => h) (Or.inl ⟨by rfl, ?_⟩) (by assumption) ?_
    rotate_left
    · intro w' hSw; first | (go_simp; done) | (go_simp; with_reducible rfl)
    simp only [Act.put, List.getElem_toArray, List.getElem_cons_zero, List.getElem_cons_succ, List.setIfInBounds_toArray, List.set_cons_zero, List.set_cons_succ]
    refine wpAnyH_take (i := 4) (v := ?_) rfl (by kernel_rfl) (by kernel_rfl) (by kernel_rfl) (fun _ _ _ h => h) (Or.inl ⟨by rfl, ?_⟩) (by assumption) ?_
    rotate_left
    · intro w' hSw; first | (go_simp; done) | (go_simp; with_reducible rfl)
    simp only [Act.put, List.getElem_toArray, List.getElem_cons_zero, List.getElem_cons_succ, List.setIfInBounds_toArray, List.set_cons_zero, List.set_cons_succ]
    refine wpAnyH_take (i := 5) (v := ?_) rfl (by kernel_rfl) (by kernel_rfl) (by kernel_rfl) (fun _ _ _ h => h) (Or.inl ⟨by rfl, ?_⟩) (by assumption) ?_
    rotate_left
    · intro w' hSw; first | (go_simp; done) | (go_simp; with_reducible rfl)
    simp only [Act.put, List.getElem_toArray, List.getElem_cons_zero, List.getElem_cons_succ, List.setIfInBounds_toArray, List.set_cons_zero, List.set_cons_succ]
    refine wpAnyH_take (i := 6) (v := ?_) rfl (by kernel_rfl) (by kernel_rfl) (by kernel_rfl) (fun _ _ _ h => h) (Or.inl ⟨by rfl, ?_⟩) (by assumption) ?_
    rotate_left
    · intro w' hSw; first | (go_simp; done) | (go_simp; with_reducible rfl)
    simp only [Act.put, List.getElem_toArray, List.getElem_cons_zero, List.getElem_cons_succ, List.setIfInBounds_toArray, List.set_cons_zero, List.set_cons_succ]
    refine wpAnyH_take (i := 7) (v := ?_) rfl (by kernel_rfl) (by kernel_rfl) (by kernel_rfl) (fun _ _ _ h => h) (Or.inl ⟨by rfl, ?_⟩) (by assumption) ?_
    rotate_left
    · intro w' hSw; first | (go_simp; done) | (go_simp; with_reducible rfl)
    simp only [Act.put, List.getElem_toArray, List.getElem_cons_zero, List.getElem_cons_succ, List.setIfInBounds_toArray, List.set_cons_zero, List.set_cons_succ]
    refine wpAnyH_take (i := 8) (v := ?_) rfl (by kernel_rfl) (by kernel_rfl) (by kernel_rfl) (fun _ _ _ h => h) (Or.inl ⟨by rfl, ?_⟩) (by assumption) ?_
    rotate_left
    · intro w' hSw; first | (go_simp; done) | (go_simp; with_reducible rfl)
    simp only [Act.put, List.getElem_toArray, List.getElem_cons_zero, List.getElem_cons_succ, List.setIfInBounds_toArray, List.set_cons_zero, List.set_cons_succ]
    refine wpAnyH_take (i := 9) (v := ?_) rfl (by kernel_rfl) (by kernel_rfl) (by kernel_rfl) (fun _ _ _ h => h) (Or.inl ⟨by rfl, ?_⟩) (by assumption) ?_
    rotate_left
    · intro w' hSw; first | (go_simp; done) | (go_simp; with_reducible rfl)
    simp only [Act.put, List.getElem_toArray, List.getElem_cons_zero, List.getElem_cons_succ, List.setIfInBounds_toArray, List.set_cons_zero, List.set_cons_succ]
    refine wpAnyH_ready (rs := [10, 14]) (by kernel_rfl) (by simp) ?_
    refine AllReadyH.cons rfl (fun K hK => ?_) ?_
    · go_simp
      go_at_call 73
      refine (HN.out _).mono ?_; rintro e wn ⟨xf, yf, zf, rfl, ho, hb⟩
      have H2 := Lib.hid (HD.out.kept hb)
      have HO2 := Lib.hid ho
      have qn := HQ.out _ H2.out
      clear ho hb
      refine hK.out _ _ qn (fun hHeld => ?_)
      clear hK K
      refine wpAnyH_take (i := 11) (v := ?_) rfl (by kernel_rfl) (by kernel_rfl) (by kernel_rfl) (fun _ _ _ h => h) (Or.inl ⟨by rfl, ?_⟩) (by assumption) ?_
      rotate_left
      · intro w' hSw; first | (go_simp; done) | (go_simp; with_reducible rfl)
      simp only [Act.put, List.getElem_toArray, List.getElem_cons_zero, List.getElem_cons_succ, List.setIfInBounds_toArray, List.set_cons_zero, List.set_cons_succ]
      refine wpAnyH_take (i := 12) (v := ?_) rfl (by kernel_rfl) (by kernel_rfl) (by kernel_rfl) (fun _ _ _ h => h) (Or.inl ⟨by rfl, ?_⟩) (by assumption) ?_
      rotate_left
      · intro w' hSw; first | (go_simp; done) | (go_simp; with_reducible rfl)
      simp only [Act.put, List.getElem_toArray, List.getElem_cons_zero, List.getElem_cons_succ, List.setIfInBounds_toArray, List.set_cons_zero, List.set_cons_succ]
      refine wpAnyH_take (i := 13) (v := ?_) rfl (by kernel_rfl) (by kernel_rfl) (by kernel_rfl) (fun _ _ _ h => h) (Or.inl ⟨by rfl, ?_⟩) (by assumption) ?_
      rotate_left
      · intro w' hSw; first | (go_simp; done) | (go_simp; with_reducible rfl)
      simp only [Act.put, List.getElem_toArray, List.getElem_cons_zero, List.getElem_cons_succ, List.setIfInBounds_toArray, List.set_cons_zero, List.set_cons_succ]
      refine wpAnyH_ready (rs := [14]) (by kernel_rfl) (by simp) ?_
      refine AllReadyH.cons rfl (fun K hK => ?_) ?_
      · refine step_allocS (n := wn.heap.size) rfl rfl rfl ?_
        have HA := Lib.hid (H2.out.kept (bel_alloc wn zbx))
        have HX2 : Hid ((wn.alloc zbx).heap[wn.heap.size]? = some zbx) := Lib.hid (heap_alloc_new _ _)
        have qa := HQ.out _ HA.out
        refine hK.out _ _ qa (fun hHeld => ?_)
        clear hK K
        refine wpAnyH_ready (rs := [15]) (by kernel_rfl) (by simp) ?_
        refine AllReadyH.cons rfl (fun K hK => ?_) ?_
        · refine step_storeS (b := wn.heap.size) (A := sarr (newS R C) xf yf zf) rfl rfl rfl rfl rfl HO2.out.in_.one HX2.out rfl ?_; intro w6 h6
          have HF : Hid (Fb w0 wn.heap.size R C xf yf zf s x y z w6) := Lib.hid ⟨HA.out.sto h6 (by have := H2.out.pn.up; omega) HX2.out, h6.box, by have := H2.out.pn.up; omega⟩
          have q6 := HQ.out _ HF.out.pb
          refine hK.out _ _ q6 (fun hHeld => ?_)
          clear hK K
          refine wpAnyH_take (i := 16) (v := ?_) rfl (by kernel_rfl) (by kernel_rfl) (by kernel_rfl) (fun _ _ _ h => h) (Or.inl ⟨by rfl, ?_⟩) (by assumption) ?_
          rotate_left
          · intro w' hSw; first | (go_simp; done) | (go_simp; with_reducible rfl)
          simp only [Act.put, List.getElem_toArray, List.getElem_cons_zero, List.getElem_cons_succ, List.setIfInBounds_toArray, List.set_cons_zero, List.set_cons_succ]
          refine wpAnyH_done (by kernel_rfl) ?_ _
          go_wp2_with fail
          go_meet
          exact ⟨_, _, _, _, rfl, HF⟩
        exact AllReadyH.nil
      exact AllReadyH.nil
    refine AllReadyH.cons rfl (fun K hK => ?_) ?_
    · refine step_allocS (n := wd.heap.size) rfl rfl rfl ?_
      have HA := Lib.hid (HD.out.kept (bel_alloc wd zbx))
      have qa := HQ.out _ HA.out
      refine hK.out _ _ qa (fun hHeld => ?_)
      clear hK K
      refine wpAnyH_ready (rs := [10]) (by kernel_rfl) (by simp) ?_
      refine AllReadyH.cons rfl (fun K hK => ?_) ?_
      · go_simp
        go_at_call 73
        refine (HN.out _).mono ?_; rintro e wn ⟨xf, yf, zf, rfl, ho, hb⟩
        have H2 := Lib.hid (HA.out.kept hb)
        have HO2 := Lib.hid ho
        have HX2 : Hid (wn.heap[wd.heap.size]? = some zbx) := Lib.hid (Blk.kept (heap_alloc_new _ _) hb)
        have qn := HQ.out _ H2.out
        clear ho hb
        refine hK.out _ _ qn (fun hHeld => ?_)
        clear hK K
        refine wpAnyH_take (i := 11) (v := ?_) rfl (by kernel_rfl) (by kernel_rfl) (by kernel_rfl) (fun _ _ _ h => h) (Or.inl ⟨by rfl, ?_⟩) (by assumption) ?_
        rotate_left
        · intro w' hSw; first | (go_simp; done) | (go_simp; with_reducible rfl)
        simp only [Act.put, List.getElem_toArray, List.getElem_cons_zero, List.getElem_cons_succ, List.setIfInBounds_toArray, List.set_cons_zero, List.set_cons_succ]
        refine wpAnyH_take (i := 12) (v := ?_) rfl (by kernel_rfl) (by kernel_rfl) (by kernel_rfl) (fun _ _ _ h => h) (Or.inl ⟨by rfl, ?_⟩) (by assumption) ?_
        rotate_left
        · intro w' hSw; first | (go_simp; done) | (go_simp; with_reducible rfl)
        simp only [Act.put, List.getElem_toArray, List.getElem_cons_zero, List.getElem_cons_succ, List.setIfInBounds_toArray, List.set_cons_zero, List.set_cons_succ]
        refine wpAnyH_take (i := 13) (v := ?_) rfl (by kernel_rfl) (by kernel_rfl) (by kernel_rfl) (fun _ _ _ h => h) (Or.inl ⟨by rfl, ?_⟩) (by assumption) ?_
        rotate_left
        · intro w' hSw; first | (go_simp; done) | (go_simp; with_reducible rfl)
        simp only [Act.put, List.getElem_toArray, List.getElem_cons_zero, List.getElem_cons_succ, List.setIfInBounds_toArray, List.set_cons_zero, List.set_cons_succ]
        refine wpAnyH_ready (rs := [15]) (by kernel_rfl) (by simp) ?_
        refine AllReadyH.cons rfl (fun K hK => ?_) ?_
        · refine step_storeS (b := wd.heap.size) (A := sarr (newS R C) xf yf zf) rfl rfl rfl rfl rfl HO2.out.in_.one HX2.out rfl ?_; intro w6 h6
          have HF : Hid (Fb w0 wd.heap.size R C xf yf zf s x y z w6) := Lib.hid ⟨H2.out.sto h6 (by have := HD.out.pn.up; omega) HX2.out, h6.box, by have := HD.out.pn.up; omega⟩
          have q6 := HQ.out _ HF.out.pb
          refine hK.out _ _ q6 (fun hHeld => ?_)
          clear hK K
          refine wpAnyH_take (i := 16) (v := ?_) rfl (by kernel_rfl) (by kernel_rfl) (by kernel_rfl) (fun _ _ _ h => h) (Or.inl ⟨by rfl, ?_⟩) (by assumption) ?_
          rotate_left
          · intro w' hSw; first | (go_simp; done) | (go_simp; with_reducible rfl)
          simp only [Act.put, List.getElem_toArray, List.getElem_cons_zero, List.getElem_cons_succ, List.setIfInBounds_toArray, List.set_cons_zero, List.set_cons_succ]
          refine wpAnyH_done (by kernel_rfl) ?_ _
          go_wp2_with fail
          go_meet
          exact ⟨_, _, _, _, rfl, HF⟩
        exact AllReadyH.nil
      exact AllReadyH.nil
    exact AllReadyH.nil
  case rest =>
  obtain ⟨bf, xf, yf, zf, rfl, HF⟩ := hcut
  rename World => w1
  clear H0 HN HQ
  have c1 : ∀ j, w1.cell? ⟨w0.heap.size, j, none⟩ = (sarr s x y z)[j]? := HF.out.pb.pn.box.cell
  have f1 : ∀ j, w1.frozen? ⟨w0.heap.size, j, none⟩ = false := HF.out.pb.pn.box.free
  have g1 : ∀ j, w1.cell? ⟨bf, j, none⟩ = (sarr (newS R C) xf yf zf)[j]? := HF.out.fb.cell
  go_upto_region 1 with (fail)
  go_region
  all_goals
    change Exit.then _ _ _ _ (w1.setCell ⟨w0.heap.size, 40, none⟩ (.int .i64 (bits .or .i64 9 (bits .and .i64 s.modes 960)))).drew
    have HG : Hid (Fb w0 bf R C xf yf zf (soft1 s) x y z (w1.setCell ⟨w0.heap.size, 40, none⟩ (.int .i64 (bits .or .i64 9 (bits .and .i64 s.modes 960)))).drew) := Lib.hid ((HF.out.to (show Pb w0 (soft1 s) x y z (w1.setCell ⟨w0.heap.size, 40, none⟩ (.int .i64 (bits .or .i64 9 (bits .and .i64 s.modes 960)))) from HF.out.pb.cell 40 (.int .i64 (bits .or .i64 9 (bits .and .i64 s.modes 960))) (Blk.set HF.out.pb.pn.box 40 _) rfl rfl rfl) ((Only.refl _ _).set _ _)).kept (Below.refl _ _).drew)
    clear c1 f1 g1 HF
    generalize (w1.setCell ⟨w0.heap.size, 40, none⟩ (.int .i64 (bits .or .i64 9 (bits .and .i64 s.modes 960)))).drew = w2 at HG ⊢
    have c1 : ∀ j, w2.cell? ⟨w0.heap.size, j, none⟩ = (sarr (soft1 s) x y z)[j]? := HG.out.pb.pn.box.cell
    have f1 : ∀ j, w2.frozen? ⟨w0.heap.size, j, none⟩ = false := HG.out.pb.pn.box.free
    have g1 : ∀ j, w2.cell? ⟨bf, j, none⟩ = (sarr (newS R C) xf yf zf)[j]? := HG.out.fb.cell
    go_upto_region 2 with (fail)
    go_region
    all_goals
      change Exit.then _ _ _ _ (cput w2 w0.heap.size (softC s)).drew
      have HH : Hid (Fb w0 bf R C xf yf zf (soft2 s) x y z (cput w2 w0.heap.size (softC s)).drew) := Lib.hid ((HG.out.to (HG.out.pb.cput (softC s)) (cput_only _ _ _)).kept (Below.refl _ _).drew)
      clear c1 f1 g1 HG
      generalize (cput w2 w0.heap.size (softC s)).drew = w3 at HH ⊢
      have c1 : ∀ j, w3.cell? ⟨w0.heap.size, j, none⟩ = (sarr (soft2 s) x y z)[j]? := HH.out.pb.pn.box.cell
      have f1 : ∀ j, w3.frozen? ⟨w0.heap.size, j, none⟩ = false := HH.out.pb.pn.box.free
      have g1 : ∀ j, w3.cell? ⟨bf, j, none⟩ = (sarr (newS R C) xf yf zf)[j]? := HH.out.fb.cell
      go_upto_region 3 with (fail)
      go_region
      all_goals
        change Exit.then _ _ _ _ (cputB (cputA w3 w0.heap.size first) w0.heap.size first).drew
        have HI : Hid (Fb w0 bf R C xf yf zf (soft3 s) x y z (cputB (cputA w3 w0.heap.size first) w0.heap.size first).drew) := Lib.hid (((HH.out.to (HH.out.pb.cputA first) (cputA_only _ _ _)).to ((HH.out.pb.cputA first).cputB first) (cputB_only _ _ _)).kept (Below.refl _ _).drew)
        clear c1 f1 g1 HH
        generalize (cputB (cputA w3 w0.heap.size first) w0.heap.size first).drew = w4 at HI ⊢
        have c1 : ∀ j, w4.cell? ⟨w0.heap.size, j, none⟩ = (sarr (soft3 s) x y z)[j]? := HI.out.pb.pn.box.cell
        have f1 : ∀ j, w4.frozen? ⟨w0.heap.size, j, none⟩ = false := HI.out.pb.pn.box.free
        have g1 : ∀ j, w4.cell? ⟨bf, j, none⟩ = (sarr (newS R C) xf yf zf)[j]? := HI.out.fb.cell
        go_upto_region 4 with (fail)
        go_region
        all_goals
          go_end0
          exact ⟨rfl, _, _, _, (HI.out.pb.cell2 0 ((R : Int) - 1)).kept (Below.refl _ _).drew⟩
set_option maxHeartbeats 1600000 in
theorem softD (s : S) (x y z : Value) (w : World) (h : In w s x y z) (hh : Holds s) (hT : Tabs w) :
    Calls Tryz.prog 26 #[sv s x y z] w fun e w' => ∃ X x' y' z' code, e = .returned (.tuple #[sv X x' y' z', .int .i64 code]) ∧ Ans w w' (okB s) (softS s) X x' y' z' code := by
  have H0 := Lib.hid (Rz.start w s x y z)
  have HI := Lib.hid (h.kept H0.out.bel)
  have HT := Lib.hid (hT.kept H0.out.bel)
  have HH := Lib.hid hh
  clear h hh hT
  go_enter Tryz.func26, Tryz.ntmps26
  go_wp2_with (first
    | (refine wp_allocS1 (w := w) rfl rfl ?_)
    | (refine wp_loadS (b := w.heap.size) (s := s) rfl rfl rfl H0.out.b0 ?_))
  cases hok : okB s
  · refine (changedM_no _ s x y z _ HI.out HH.out HT.out hok).mono ?_; rintro e w1 ⟨rfl, hb⟩
    have H1 := Lib.hid (H0.out.kept hb)
    clear hb H0
    go_wp2_with (refine wp_storeS (b := w.heap.size + 1) (A := zarr) rfl rfl rfl rfl rfl (sarr_one rfl rfl rfl) H1.out.b1 rfl ?_; intro w7 h7)
    refine bodyPost_ret (ret2S (s := noS) (x := nilS) (y := nilS) (z := nilS) rfl rfl h7.box rfl) rfl ?_
    exact ⟨_, _, _, _, _, rfl, ans_no hok (h7.below _ _ (by omega) H1.out.bel)⟩
  · refine (changedM_soft s (softS s) x y z _ HI.out HH.out HT.out hok (fun W x' y' z' k _ => soft_clo _ s x' y' z' W k ((ok_iff s).1 hok))).mono ?_; rintro e w1 ⟨x1, y1, z1, rfl, ho, hb⟩
    have H1 := Lib.hid (H0.out.kept hb)
    have HO := Lib.hid (ho.low H0.out.up)
    clear ho hb H0
    go_wp2_with (refine wp_storeS (b := w.heap.size + 1) rfl rfl rfl rfl rfl HO.out.in_.one H1.out.b1 rfl ?_; intro w9 h9)
    refine bodyPost_ret (ret2S rfl rfl h9.box rfl) rfl ?_
    exact ⟨_, _, _, _, _, rfl, h9.below _ _ (by omega) H1.out.bel, Own.low (h9.own HO.out (by omega)) (by omega), by rw [hok]; rfl, fun _ => rfl, fun e => by rw [hok] at e; cases e⟩
set_option maxHeartbeats 1600000 in
theorem hardD (s : S) (x y z : Value) (w : World) (h : In w s x y z) (hh : Holds s) (hT : Tabs w) :
    Calls Tryz.prog 27 #[sv s x y z] w fun e w' => ∃ X x' y' z' code, e = .returned (.tuple #[sv X x' y' z', .int .i64 code]) ∧ Ans w w' (okB s) (hardS s) X x' y' z' code := by
  have H0 := Lib.hid (Rz.start w s x y z)
  have HCK := Lib.hid (check_any s x y z _ (h.kept H0.out.bel) hh (hT.kept H0.out.bel))
  unfold codeB at HCK
  clear h hh hT
  cases hok : okB s
  · rw [hok] at HCK
    go_enter Tryz.func27, Tryz.ntmps27
    go_wp2_with (first
      | (refine wp_allocS1 (w := w) rfl rfl ?_)
      | (refine wp_loadS (b := w.heap.size) (s := s) rfl rfl rfl H0.out.b0 ?_))
    refine HCK.out.mono ?_; rintro e w1 ⟨rfl, hb⟩
    have H1 := Lib.hid (H0.out.kept hb)
    clear hb H0 HCK
    go_wp2_with (refine wp_storeS (b := w.heap.size + 1) (A := zarr) rfl rfl rfl rfl rfl (sarr_one rfl rfl rfl) H1.out.b1 rfl ?_; intro w7 h7)
    refine bodyPost_ret (ret2S (s := noS) (x := nilS) (y := nilS) (z := nilS) rfl rfl h7.box rfl) rfl ?_
    exact ⟨_, _, _, _, _, rfl, ans_no rfl (h7.below _ _ (by omega) H1.out.bel)⟩
  · rw [hok] at HCK
    obtain ⟨R, C, hR, hC, h1, h2, h3, h4⟩ := ((ok_iff s).1 hok).size
    have HN := Lib.hid (fun W => new_any R C W h1 h2 h3 h4)
    have HE : Hid (hardS s = newS R C) := Lib.hid (by unfold hardS; rw [hR, hC, Int.toNat_natCast, Int.toNat_natCast])
    rw [HE.out]
    have HRC := Lib.hid (And.intro hR hC)
    clear h1 h2 h3 h4 hR hC
    go_enter Tryz.func27, Tryz.ntmps27
    go_wp2_with (first
      | (refine wp_allocS1 (w := w) rfl rfl ?_)
      | (refine wp_loadS (b := w.heap.size) (s := s) rfl rfl rfl H0.out.b0 ?_))
    refine HCK.out.mono ?_; rintro e w1 ⟨rfl, hb⟩
    have H1 := Lib.hid (H0.out.kept hb)
    clear hb H0 HCK
    have c0 : w1.cell? ⟨w.heap.size, 0, none⟩ = some (.int .i64 R) := by have t := H1.out.b0.cell 0; rw [sarr_0, HRC.out.1] at t; exact t
    have c1 : w1.cell? ⟨w.heap.size, 1, none⟩ = some (.int .i64 C) := by have t := H1.out.b0.cell 1; rw [sarr_1, HRC.out.2] at t; exact t
    go_wp2_with fail
    refine (HN.out w1).mono ?_; rintro e w2 ⟨x2, y2, z2, rfl, ho, hb⟩
    have H2 := Lib.hid (H1.out.kept hb)
    have HO := Lib.hid (ho.low H1.out.up)
    clear ho hb H1 HN c0 c1
    go_wp2_with (refine wp_storeS (b := w.heap.size + 1) rfl rfl rfl rfl rfl HO.out.in_.one H2.out.b1 rfl ?_; intro w9 h9)
    refine bodyPost_ret (ret2S rfl rfl h9.box rfl) rfl ?_
    exact ⟨_, _, _, _, _, rfl, h9.below _ _ (by omega) H2.out.bel, Own.low (h9.own HO.out (by omega)) (by omega), rfl, fun _ => rfl, fun e => by cases e⟩
end Scr
end Go.Proofs.YtceaoadlhdgnmaaGreatDoor
end
section
/- The pattern: the developers' Align, for whatever screen. -/
namespace Go.Proofs.YtceaoadlhdgnmaaGreatDoor
set_option maxRecDepth 100000
open Go.RowKit
namespace Scr
open Go.Proofs.YtceaoadlhdgnmaaGreatDoor.Row Wid

theorem seenM_any (s : S) (x y z : Value) (b : Nat) (w : World) (h : SBox w b s x y z) : Calls Tryz.prog 76 #[.pointer (some ⟨b, 0, none⟩)] w fun e w' => e = .returned (.pointer (some ⟨b, seatO s, none⟩)) ∧ w = w' := by
  have c0 : ∀ j, w.cell? ⟨b, j, none⟩ = (sarr s x y z)[j]? := h.cell
  clear h
  cases hs : s.swapped
  · have HO : Hid (seatO s = 0) := Lib.hid (by unfold seatO; rw [hs]; rfl)
    rw [HO.out]
    go_enter Tryz.func76, Tryz.ntmps76
    go_wp2_with fail
    go_ret
    exact ⟨rfl, rfl⟩
  · have HO : Hid (seatO s = 3) := Lib.hid (by unfold seatO; rw [hs]; rfl)
    rw [HO.out]
    go_enter Tryz.func76, Tryz.ntmps76
    go_wp2_with fail
    go_ret
    exact ⟨rfl, rfl⟩
set_option maxHeartbeats 6400000 in
theorem align_clo (w0 : World) (s : S) (x y z : Value) (w : World) (h : Pb w0 s x y z w) (hap : Apart x y) (hok : Ok s) (hT : Tabs w0) :
    Calls Tryz.prog 75 #[.pointer (some ⟨w0.heap.size, 0, none⟩)] w fun e w' => e = .returned (.tuple #[]) ∧ ∃ x' y' z', Pb w0 (alignS s) x' y' z' w' := by
  obtain ⟨g, n, cap, hX⟩ := seenX_some h.pn hok.facts.g
  have H0 := Lib.hid h
  have HOK := Lib.hid hok
  have HT := Lib.hid hT
  have HAL : Hid (moveS (filledS s) 72 1 1 = alignS s) := Lib.hid (align_is hok)
  have HW : Hid (filledS s = botS (topS (putG s { seenG s with cells := List.replicate (seenG s).cells.length eCell }) 0) (s.main.rows - 1)) := Lib.hid rfl
  have ho := h.pn.cells hX
  have hn := ho.n
  subst hn
  have HF0 : Hid (Fl w (w0.heap.size + 2) g (seenG s).cells.length cap (fillK (seenG s).cells 0) w) := Lib.hid ⟨ho, Only.refl _ _, Below.refl _ _, h.pn.up⟩
  have HSM := Lib.hid (gridB_small hok.facts.g)
  have HEND : Hid (∀ W, Fl w (w0.heap.size + 2) g (seenG s).cells.length cap (List.replicate (seenG s).cells.length eCell) W → Pb w0 (putG s { seenG s with cells := List.replicate (seenG s).cells.length eCell }) x y z W) := Lib.hid fun W k =>
    h.near (h.pn.over hap hX k.own k.on k.on.1) (near_below (by omega) k.bel)
  have q := seat_arr s x y z
  rw [hX] at q
  have c2 : w.cell? ⟨w0.heap.size, seatO s + 2, none⟩ = some (.slice (some ⟨g, 0, none⟩) (seenG s).cells.length cap) := (h.pn.box.cell _).trans q.2.2
  have HSN := Lib.hid (seenM_any s x y z w0.heap.size w h.pn.box)
  have HROW : Hid (0 ≤ s.main.rows ∧ s.main.rows ≤ 40) := Lib.hid ⟨by have := hok.facts.r1; omega, hok.facts.r40⟩
  generalize seatO s = p at c2 HSN
  have HL := Lib.hid (fun k (hk : k < (seenG s).cells.length) => fillK_step hk)
  have HLN := Lib.hid (fun k (hk : k ≤ (seenG s).cells.length) => fillK_len hk)
  have HLA := Lib.hid (fillK_all (seenG s).cells)
  clear h hap hok hT hX ho q
  obtain ⟨m, hm⟩ : ∃ m, (seenG s).cells.length = m := ⟨_, rfl⟩
  rw [hm] at HF0 HSM HEND c2 HL HLN HLA HW
  clear hm
  have hm16 : m ≤ 1600 := HSM.out
  go_enter Tryz.func75, Tryz.ntmps75
  go_wp2_with fail
  refine HSN.out.mono ?_; rintro e w' ⟨rfl, hw'⟩
  rw [← hw']
  clear hw' HSN
  go_wp2_with fail
  go_loopw [11] (fun i wr => ∃ a : Nat, a ≤ m ∧ i = .int .i64 a ∧ Hid (Fl w (w0.heap.size + 2) g m cap (fillK (seenG s).cells a) wr)) (fun i _ => m - (intOf i).toNat)
  case atStart => exact ⟨0, by omega, rfl, HF0⟩
  case round =>
    clear HF0 c2
    obtain ⟨a, ha, rfl, HF⟩ := hrel
    by_cases hlt : a < m
    · go_wp2_with fail
      refine (plainM_any wr).mono ?_; rintro e w2 ⟨rfl, hb⟩
      have H2 := Lib.hid (HF.out.kept hb)
      clear hb HF
      have hka : a < (fillK (seenG s).cells a).length := by rw [HLN.out a ha]; exact hlt
      have HP : Hid (Fl w (w0.heap.size + 2) g m cap (fillK (seenG s).cells (a + 1)) (putCell w2 g a eCell)) := Lib.hid (by
        have k := H2.out.put hka eCell
        rw [HL.out a hlt] at k
        exact k)
      have hc : ∀ j, j < 6 → w2.cell? ⟨g, a * 6 + j, none⟩ = (cvals (Row.g (fillK (seenG s).cells a) a))[j]? := fun j hj => H2.out.own.cell hka hj
      have ef : ∀ j, w2.frozen? ⟨g, j, none⟩ = false := H2.out.own.free
      generalize Row.g (fillK (seenG s).cells a) a = fc at hc
      obtain ⟨fr, fm, fw, ⟨fa, fb, fl⟩⟩ := fc
      have e0 : w2.cell? ⟨g, a * 6, none⟩ = some (.int .i64 fr) := hc 0 (by decide)
      have e1 : w2.cell? ⟨g, a * 6 + 1, none⟩ = some (.string ⟨fm.toArray⟩) := hc 1 (by decide)
      have e2 : w2.cell? ⟨g, a * 6 + 2, none⟩ = some (.int .i64 fw) := hc 2 (by decide)
      have e3 : w2.cell? ⟨g, a * 6 + 3, none⟩ = some (.int .i64 fa) := hc 3 (by decide)
      have e4 : w2.cell? ⟨g, a * 6 + 4, none⟩ = some (.int .i64 fb) := hc 4 (by decide)
      have e5 : w2.cell? ⟨g, a * 6 + 5, none⟩ = some (.int .i64 fl) := hc 5 (by decide)
      clear hc
      clear hka H2
      go_wp2_with fail
      go_roundw
      case rel => exact ⟨a + 1, by omega, by go_num, HP⟩
      case measure => simp [intOf]; omega
    · obtain rfl : a = m := by omega
      rw [HLA.out] at HF
      have HB := Lib.hid (HEND.out wr HF.out)
      have c0 : ∀ j, wr.cell? ⟨w0.heap.size, j, none⟩ = (sarr (putG s { seenG s with cells := List.replicate a eCell }) x y z)[j]? := HB.out.pn.box.cell
      have f0 : ∀ j, wr.frozen? ⟨w0.heap.size, j, none⟩ = false := HB.out.pn.box.free
      have hrows : (putG s { seenG s with cells := List.replicate a eCell }).main.rows = s.main.rows := (putG_sides s { seenG s with cells := List.replicate a eCell } rfl rfl).1
      have cr : wr.cell? ⟨w0.heap.size, 0, none⟩ = some (.int .i64 s.main.rows) := by rw [c0, sarr_0, hrows]
      have hw : IntKind.i64.wrap (s.main.rows - 1) = s.main.rows - 1 := by have := HROW.out; rw [IntKind.wrap_i64]; omega
      have c37 : wr.cell? ⟨w0.heap.size, 37, none⟩ = some (.int .i64 s.top) := by rw [c0, sarr_37]; unfold putG; split <;> rfl
      have c38 : wr.cell? ⟨w0.heap.size, 38, none⟩ = some (.int .i64 s.bottom) := by rw [c0, sarr_38]; unfold putG; split <;> rfl
      clear c0 hrows
      go_upto_region 7 with (fail)
      change Code.wp _ _ _ _ ((wr.setCell ⟨w0.heap.size, 37, none⟩ (.int .i64 0)).setCell ⟨w0.heap.size, 38, none⟩ (.int .i64 (s.main.rows - 1)))
      have H3 : Hid (Pb w0 (filledS s) x y z ((wr.setCell ⟨w0.heap.size, 37, none⟩ (.int .i64 0)).setCell ⟨w0.heap.size, 38, none⟩ (.int .i64 (s.main.rows - 1)))) := Lib.hid (by rw [HW.out]; exact HB.out.cell2A 0 (s.main.rows - 1))
      have HFO := Lib.hid (filledS_ok HOK.out)
      clear cr c37 c38 f0 HB HF
      generalize (wr.setCell ⟨w0.heap.size, 37, none⟩ (.int .i64 0)).setCell ⟨w0.heap.size, 38, none⟩ (.int .i64 (s.main.rows - 1)) = w3 at H3 ⊢
      go_wp2_with (refine wp_loadS (b := w0.heap.size) (s := filledS s) rfl rfl rfl H3.out.pn.box ?_)
      refine (homeD (filledS s) x y z w3 H3.out.pn.own.in_ HFO.out.holds (HT.out.kept H3.out.bel)).mono ?_; rintro e w4 ⟨X, x4, y4, z4, code, rfl, hans⟩
      obtain rfl := hans.yes ((ok_iff _).2 HFO.out)
      have H4 := Lib.hid (H3.out.kept hans.bel)
      have HW4 := Lib.hid hans.own
      have HU := Lib.hid H3.out.pn.up
      clear hans H3
      go_wp2_with (refine wp_storeS (b := w0.heap.size) (A := sarr (homeS (filledS s)) x4 y4 z4) rfl rfl rfl rfl rfl HW4.out.in_.one H4.out.pn.box rfl ?_; intro w5 h5)
      go_end0
      have hq := (H4.out.put HW4.out HU.out h5).1
      have hq2 : Pb w0 (alignS s) x4 y4 z4 w5 := HAL.out ▸ hq
      exact ⟨rfl, _, _, _, hq2⟩
set_option maxHeartbeats 1600000 in
theorem alignD (s : S) (x y z : Value) (w : World) (h : In w s x y z) (hh : Holds s) (hT : Tabs w) :
    Calls Tryz.prog 28 #[sv s x y z] w fun e w' => ∃ X x' y' z' code, e = .returned (.tuple #[sv X x' y' z', .int .i64 code]) ∧ Ans w w' (okB s) (alignS s) X x' y' z' code := by
  have H0 := Lib.hid (Rz.start w s x y z)
  have HI := Lib.hid (h.kept H0.out.bel)
  have HT := Lib.hid (hT.kept H0.out.bel)
  have HH := Lib.hid hh
  clear h hh hT
  go_enter Tryz.func28, Tryz.ntmps28
  go_wp2_with (first
    | (refine wp_allocS1 (w := w) rfl rfl ?_)
    | (refine wp_loadS (b := w.heap.size) (s := s) rfl rfl rfl H0.out.b0 ?_))
  cases hok : okB s
  · refine (changedM_no _ s x y z _ HI.out HH.out HT.out hok).mono ?_; rintro e w1 ⟨rfl, hb⟩
    have H1 := Lib.hid (H0.out.kept hb)
    clear hb H0
    go_wp2_with (refine wp_storeS (b := w.heap.size + 1) (A := zarr) rfl rfl rfl rfl rfl (sarr_one rfl rfl rfl) H1.out.b1 rfl ?_; intro w7 h7)
    refine bodyPost_ret (ret2S (s := noS) (x := nilS) (y := nilS) (z := nilS) rfl rfl h7.box rfl) rfl ?_
    exact ⟨_, _, _, _, _, rfl, ans_no hok (h7.below _ _ (by omega) H1.out.bel)⟩
  · refine (changedM_align s (alignS s) x y z _ HI.out HH.out HT.out hok (fun W x' y' z' k ha => align_clo _ s x' y' z' W k ha ((ok_iff s).1 hok) HT.out)).mono ?_; rintro e w1 ⟨x1, y1, z1, rfl, ho, hb⟩
    have H1 := Lib.hid (H0.out.kept hb)
    have HO := Lib.hid (ho.low H0.out.up)
    clear ho hb H0
    go_wp2_with (refine wp_storeS (b := w.heap.size + 1) rfl rfl rfl rfl rfl HO.out.in_.one H1.out.b1 rfl ?_; intro w9 h9)
    refine bodyPost_ret (ret2S rfl rfl h9.box rfl) rfl ?_
    exact ⟨_, _, _, _, _, rfl, h9.below _ _ (by omega) H1.out.bel, Own.low (h9.own HO.out (by omega)) (by omega), by rw [hok]; rfl, fun _ => rfl, fun e => by rw [hok] at e; cases e⟩
end Scr
end Go.Proofs.YtceaoadlhdgnmaaGreatDoor
end
section
/- A screen copied: its two grids lie apart. -/
namespace Go.Proofs.YtceaoadlhdgnmaaGreatDoor
set_option maxRecDepth 100000
open Go.RowKit
namespace Scr
open Go.Proofs.YtceaoadlhdgnmaaGreatDoor.Row

set_option maxHeartbeats 1600000 in
theorem copyScreen_apart (s : S) (x y z : Value) (w : World) (h : In w s x y z) (hl : s.main.cells.length ≤ 1000000 ∧ s.other.cells.length ≤ 1000000 ∧ s.tabs.length ≤ 1000000) :
    Calls Tryz.prog 16 #[sv s x y z] w fun e w' => ∃ x' y' z', e = .returned (sv s x' y' z') ∧ Own w' w.heap.size s x' y' z' ∧ Apart x' y' ∧ Below w.heap.size w w' := by
  have HI := Lib.hid h
  have HL := Lib.hid hl
  clear h hl
  go_enter Tryz.func16, Tryz.ntmps16
  go_wp2_with (first
    | (refine wp_allocS2 (w := w) rfl rfl ?_)
    | (refine wp_allocS1 (w := w) rfl rfl ?_)
    | (refine wp_loadS (b := w.heap.size) (s := s) rfl rfl rfl (heap_alloc2_old _ _ _) ?_)
    | (refine wp_storeS_then (b := w.heap.size + 2) (T := Cp w s x y z x y z) rfl rfl rfl rfl rfl (HI.out.one) (new_alloc _ _ _ (by simp)) rfl Cp.start ?_; intro w1 H1; have c0 : ∀ j, w1.cell? ⟨w.heap.size, j, none⟩ = (sarr s x y z)[j]? := H1.out.b0.cell))
  refine (copyGrid_any s.main.rows s.main.cols s.main.cells x _ (HI.out.kept H1.out.bel).m.cs (by have := HL.out.1; omega)).mono ?_
  rintro e w2 ⟨v, rfl, ho, hb⟩
  obtain ⟨A2, c2, rfl, _⟩ := ho.rm.2
  have H2 := Lib.hid (H1.out.kept hb)
  have HU := Lib.hid H1.out.up
  have HM := Lib.hid (gput_own (ho.low HU.out) (show w.heap.size + 2 < w.heap.size + 3 by omega) s.main.rows s.main.cols (.slice A2 s.main.cells.length c2))
  have H3 := Lib.hid (H2.out.main (.slice A2 s.main.cells.length c2))
  clear H1 c0 hb ho
  have f2 : ∀ j, w2.frozen? ⟨w.heap.size + 2, j, none⟩ = false := H2.out.b2.free
  have c2' : ∀ j, w2.cell? ⟨w.heap.size + 2, j, none⟩ = (sarr s x y z)[j]? := H2.out.b2.cell
  have c0 : ∀ j, w2.cell? ⟨w.heap.size, j, none⟩ = (sarr s x y z)[j]? := H2.out.b0.cell
  go_wp2_with fail
  refine (copyGrid_any s.other.rows s.other.cols s.other.cells y (gput w2 (w.heap.size + 2) s.main.rows s.main.cols (.slice A2 s.main.cells.length c2)) (HI.out.kept H3.out.bel).o.cs (by have := HL.out.2.1; omega)).mono ?_
  rintro e w4 ⟨v, rfl, ho, hb⟩
  obtain ⟨A3, c3, rfl, _⟩ := ho.rm.2
  have HAP : Hid (Apart (.slice A2 s.main.cells.length c2) (.slice A3 s.other.cells.length c3)) := Lib.hid (fun k e1 e2 => by have h1 := (HM.out.lt k e1).2; have h2 := (ho.lt k e2).1; omega)
  have H4 := Lib.hid (H3.out.kept hb)
  have HM4 := Lib.hid (oput_own (HM.out.kept hb) (show w.heap.size + 2 < w.heap.size + 3 by omega) s.other.rows s.other.cols (.slice A3 s.other.cells.length c3))
  have HO4 := Lib.hid (oput_own (ho.low H3.out.up) (show w.heap.size + 2 < w.heap.size + 3 by omega) s.other.rows s.other.cols (.slice A3 s.other.cells.length c3))
  have H5 := Lib.hid (H4.out.other (.slice A3 s.other.cells.length c3))
  clear H2 H3 HM c0 hb ho f2 c2' HU
  have f2 : ∀ j, w4.frozen? ⟨w.heap.size + 2, j, none⟩ = false := H4.out.b2.free
  have c2' : ∀ j, w4.cell? ⟨w.heap.size + 2, j, none⟩ = (sarr s (.slice A2 s.main.cells.length c2) y z)[j]? := H4.out.b2.cell
  have c0 : ∀ j, w4.cell? ⟨w.heap.size, j, none⟩ = (sarr s x y z)[j]? := H4.out.b0.cell
  go_wp2_with fail
  refine (Tab.copyBools_any s.tabs (oput w4 (w.heap.size + 2) s.other.rows s.other.cols (.slice A3 s.other.cells.length c3)) (HI.out.kept H5.out.bel).t (by have := HL.out.2.2; omega)).mono ?_
  rintro e w6 ⟨v, rfl, ho, hb⟩
  obtain ⟨A4, c4, rfl, _⟩ := ho.bl.room
  have H6 := Lib.hid (H5.out.kept hb)
  have HM6 := Lib.hid ((HM4.out.kept hb).set (show w.heap.size + 2 < w.heap.size + 3 by omega) 39 (.slice A4 s.tabs.length c4))
  have HO6 := Lib.hid ((HO4.out.kept hb).set (show w.heap.size + 2 < w.heap.size + 3 by omega) 39 (.slice A4 s.tabs.length c4))
  have HT6 := Lib.hid (ownB_set (ho.low H5.out.up) (show w.heap.size + 2 < w.heap.size + 3 by omega) 39 (.slice A4 s.tabs.length c4))
  have H7 := Lib.hid (H6.out.tabs (.slice A4 s.tabs.length c4))
  clear H4 H5 HM4 HO4 c0 hb ho f2 c2'
  have f2 : ∀ j, w6.frozen? ⟨w.heap.size + 2, j, none⟩ = false := H6.out.b2.free
  have c2' : ∀ j, w6.cell? ⟨w.heap.size + 2, j, none⟩ = (sarr s (.slice A2 s.main.cells.length c2) (.slice A3 s.other.cells.length c3) z)[j]? := H6.out.b2.cell
  go_wp2_with (first
    | (refine wp_loadS (b := w.heap.size + 2) (s := s) rfl rfl rfl H7.out.b2 ?_)
    | (refine wp_storeS (b := w.heap.size + 1) rfl rfl rfl rfl rfl (sarr_one rfl rfl rfl) H7.out.b1 rfl ?_; intro w8 h8))
  refine bodyPost_ret (ret1S rfl rfl h8.box) rfl ?_
  exact ⟨_, _, _, rfl, Own.low (h8.own ⟨HM6.out, HO6.out, HT6.out⟩ (by omega)) (by omega), HAP.out, h8.below _ _ (by omega) H7.out.bel⟩
end Scr
end Go.Proofs.YtceaoadlhdgnmaaGreatDoor
end
section
/- Resets and the pattern: the page's. -/
namespace Go.Proofs.YtceaoadlhdgnmaaGreatDoor
set_option maxRecDepth 100000
open Go.RowKit
namespace Scr
open Go.Proofs.YtceaoadlhdgnmaaGreatDoor.Row Wid

set_option maxHeartbeats 3200000 in
theorem refHard_any (s : S) (x y z : Value) (w : World) (hok : Ok s) :
    Calls Tryz.prog 30 #[sv s x y z] w fun e w' => ∃ x' y' z', e = .returned (sv (hardS s) x' y' z') ∧ Own w' w.heap.size (hardS s) x' y' z' ∧ Below w.heap.size w w' := by
  obtain ⟨R, C, hR, hC, h1, h2, h3, h4⟩ := hok.size
  have HN := Lib.hid (fun W => refNew8 R C W h1 h2 h3 h4)
  have HE : Hid (hardS s = newS R C) := Lib.hid (by unfold hardS; rw [hR, hC, Int.toNat_natCast, Int.toNat_natCast])
  rw [HE.out]
  have H0 := Lib.hid (Rz.start w s x y z)
  have c0 : ((w.alloc (.cells (sarr s x y z) 36)).alloc (.cells zarr 36)).cell? ⟨w.heap.size, 0, none⟩ = some (.int .i64 R) := by have t := H0.out.b0.cell 0; rw [sarr_0, hR] at t; exact t
  have c1 : ((w.alloc (.cells (sarr s x y z) 36)).alloc (.cells zarr 36)).cell? ⟨w.heap.size, 1, none⟩ = some (.int .i64 C) := by have t := H0.out.b0.cell 1; rw [sarr_1, hC] at t; exact t
  clear hok h1 h2 h3 h4 hR hC HE
  go_enter Tryz.func30, Tryz.ntmps30
  go_wp2_with (refine wp_allocS1 (w := w) rfl rfl ?_)
  refine (HN.out _).mono ?_; rintro e w2 ⟨x2, y2, z2, rfl, ho, hb⟩
  have H2 := Lib.hid (H0.out.kept hb)
  have HO := Lib.hid (ho.low H0.out.up)
  clear ho hb H0 HN c0 c1
  go_wp2_with (refine wp_storeS (b := w.heap.size + 1) rfl rfl rfl rfl rfl HO.out.in_.one H2.out.b1 rfl ?_; intro w9 h9)
  refine bodyPost_ret (ret1S rfl rfl h9.box) rfl ?_
  exact ⟨_, _, _, rfl, Own.low (h9.own HO.out (by omega)) (by omega), h9.below _ _ (by omega) H2.out.bel⟩
def pSoft1 (s : S) : S := withM s (bits .or .i64 9 (bits .and .i64 s.modes 960))
def pSoft2 (s : S) : S := withC (pSoft1 s) ⟨s.cur.row, s.cur.col, false, plain, 0, 0, 0, false⟩
def pSoft3 (s : S) (R : Int) : S := { botS (topS (pSoft2 s) 0) (R - 1) with saved := first, too := first }
set_option maxHeartbeats 3200000 in
theorem refSoft_any (s : S) (x y z : Value) (w : World) (h : In w s x y z) (hok : Ok s) :
    Calls Tryz.prog 29 #[sv s x y z] w fun e w' => ∃ x' y' z', e = .returned (sv (softS s) x' y' z') ∧ Own w' w.heap.size (softS s) x' y' z' ∧ Below w.heap.size w w' := by
  obtain ⟨R, C, hR, hC, h1, h2, h3, h4⟩ := hok.size
  have HR := Lib.hid hR
  have HR4 := Lib.hid (And.intro h1 h2)
  have HE : Hid (softS s = pSoft3 s R) := Lib.hid (by rw [← hR]; rfl)
  rw [HE.out]
  clear HE hR hC h1 h2 h3 h4
  have HI := Lib.hid h
  have H0 := Lib.hid (Rz.start w s x y z)
  have HL := Lib.hid hok.lens
  have HOK := Lib.hid hok
  clear h hok
  go_enter Tryz.func29, Tryz.ntmps29
  go_wp2_with (first
    | (refine wp_allocS1 (w := w) rfl rfl ?_)
    | (refine wp_loadS (b := w.heap.size) (s := s) rfl rfl rfl H0.out.b0 ?_))
  refine (copyScreen_any s x y z _ (HI.out.kept H0.out.bel) HL.out).mono ?_; rintro e w1 ⟨x1, y1, z1, rfl, ho, hb⟩
  have H1 := Lib.hid (H0.out.kept hb)
  have HO1 := Lib.hid (ho.low H0.out.up)
  clear ho hb H0 HI
  go_upto_region 2 with (refine wp_storeS_then (b := w.heap.size) (A := sarr s x1 y1 z1) (T := Pb w s x1 y1 z1) rfl rfl rfl rfl rfl HO1.out.in_.one H1.out.b0 rfl (fun _ k => Pb.start H1.out HO1.out k) ?_; intro w2 H2)
  go_simp
  change Code.wp _ _ _ _ w2
  clear H1 HO1
  have c40 : w2.cell? ⟨w.heap.size, 40, none⟩ = some (.int .i64 s.modes) := H2.out.pn.box.cell 40
  have f40 : w2.frozen? ⟨w.heap.size, 40, none⟩ = false := H2.out.pn.box.free 40
  go_upto_region 3 with (fail)
  change Code.wp _ _ _ _ (w2.setCell ⟨w.heap.size, 40, none⟩ (.int .i64 (bits .or .i64 9 (bits .and .i64 s.modes 960))))
  have H3 : Hid (Pb w (pSoft1 s) x1 y1 z1 (w2.setCell ⟨w.heap.size, 40, none⟩ (.int .i64 (bits .or .i64 9 (bits .and .i64 s.modes 960))))) := Lib.hid (H2.out.modes (bits .or .i64 9 (bits .and .i64 s.modes 960)))
  clear c40 f40 H2
  generalize w2.setCell ⟨w.heap.size, 40, none⟩ (.int .i64 (bits .or .i64 9 (bits .and .i64 s.modes 960))) = w3 at H3 ⊢
  have HQ : Hid (∀ W, Pb w (pSoft1 s) x1 y1 z1 W → W.cell? ⟨w.heap.size, 7, none⟩ = some (.int .i64 s.cur.row) ∧ W.cell? ⟨w.heap.size, 8, none⟩ = some (.int .i64 s.cur.col) ∧ (∀ j, W.frozen? ⟨w.heap.size, j, none⟩ = false) ∧ (∀ j, W.cell? ⟨w.heap.size, j, none⟩ = (sarr (pSoft1 s) x1 y1 z1)[j]?)) := Lib.hid fun W k =>
    ⟨k.pn.box.cell 7, k.pn.box.cell 8, k.pn.box.free, k.pn.box.cell⟩
  go_upto_region 3 with (fail)
  go_cut [0] from 10 to 18 (fun _ wx => Hid (Pb w (pSoft2 s) x1 y1 z1 wx) ∧ True)
  case first =>
    obtain ⟨q7, q8, qf, qc⟩ := HQ.out w3.drew (H3.out.kept (Below.refl _ _).drew)
    clear qc
    go_region_law (go_simp; go_at_call 65; refine (refPlain8 _).mono ?_; rintro e wp ⟨rfl, hb⟩; have HP := Lib.hid (H3.out.kept ((Below.refl _ _).drew.trans hb)); obtain ⟨r7, r8, rf, rc⟩ := HQ.out _ HP.out; clear hb)
    all_goals
      go_wp2_with fail
      go_meet
      exact ⟨Lib.hid (HP.out.cput ⟨s.cur.row, s.cur.col, false, plain, 0, 0, 0, false⟩), trivial⟩
  case rest =>
  obtain ⟨HA, _⟩ := hcut
  rename World => w4
  clear HQ H3
  have HQ : Hid (∀ W, Pb w (pSoft2 s) x1 y1 z1 W → W.cell? ⟨w.heap.size, 0, none⟩ = some (.int .i64 R) ∧ (∀ j, W.frozen? ⟨w.heap.size, j, none⟩ = false) ∧ (∀ j, W.cell? ⟨w.heap.size, j, none⟩ = (sarr (pSoft2 s) x1 y1 z1)[j]?)) := Lib.hid fun W k =>
    ⟨by have t := k.pn.box.cell 0; rw [sarr_0] at t; rw [t]; exact congrArg (fun q => some (Value.int .i64 q)) HR.out, k.pn.box.free, k.pn.box.cell⟩
  have hw : IntKind.i64.wrap ((R : Int) - 1) = (R : Int) - 1 := by have := HR4.out; rw [IntKind.wrap_i64]; omega
  go_upto_region 4 with (fail)
  go_cut [0] from 19 to 28 (fun _ wx => Hid (Pb w (pSoft3 s R) x1 y1 z1 wx) ∧ True)
  case first =>
    obtain ⟨q0, qf, qc⟩ := HQ.out w4.drew (HA.out.kept (Below.refl _ _).drew)
    clear qc
    go_region_law (first
      | (go_simp; go_at_call 78; have hpre := HP1.out; refine (first8 _).mono ?_; rintro e wq ⟨rfl, hb⟩; have HP2 := Lib.hid (hpre.kept hb); obtain ⟨s0, sf, sc⟩ := HQ.out _ HP2.out; clear hb hpre)
      | (go_simp; go_at_call 78; refine (first8 _).mono ?_; rintro e wp ⟨rfl, hb⟩; have HP1 := Lib.hid (HA.out.kept ((Below.refl _ _).drew.trans hb)); obtain ⟨r0, rf, rc⟩ := HQ.out _ HP1.out; clear hb))
    all_goals
      go_wp2_with fail
      go_meet
      exact ⟨Lib.hid (((HP2.out.cell2A 0 ((R : Int) - 1)).cputA first).cputB first), trivial⟩
  case rest =>
  obtain ⟨HB, _⟩ := hcut
  rename World => w5
  clear HQ HA
  go_wp2_with (first
    | (refine wp_loadS (b := w.heap.size) (s := pSoft3 s R) rfl rfl rfl HB.out.pn.box ?_)
    | (refine wp_storeS (b := w.heap.size + 1) rfl rfl rfl rfl rfl HB.out.pn.own.in_.one HB.out.b1 rfl ?_; intro w9 h9))
  refine bodyPost_ret (ret1S rfl rfl h9.box) rfl ?_
  have hoo : Own w9 w.heap.size (pSoft3 s R) x1 y1 z1 := Own.low (h9.own HB.out.pn.own (show w.heap.size + 1 < w.heap.size + 2 by omega)) (show w.heap.size ≤ w.heap.size + 2 by omega)
  exact ⟨_, _, _, rfl, hoo, h9.below _ _ (by omega) HB.out.bel⟩
theorem refSeenM (s : S) (x y z : Value) (b : Nat) (w : World) (h : SBox w b s x y z) : Calls Tryz.prog 79 #[.pointer (some ⟨b, 0, none⟩)] w fun e w' => e = .returned (.pointer (some ⟨b, seatO s, none⟩)) ∧ w = w' := by
  have c0 : ∀ j, w.cell? ⟨b, j, none⟩ = (sarr s x y z)[j]? := h.cell
  clear h
  cases hs : s.swapped
  · have HO : Hid (seatO s = 0) := Lib.hid (by unfold seatO; rw [hs]; rfl)
    rw [HO.out]
    go_enter Tryz.func79, Tryz.ntmps79
    go_wp2_with fail
    go_ret
    exact ⟨rfl, rfl⟩
  · have HO : Hid (seatO s = 3) := Lib.hid (by unfold seatO; rw [hs]; rfl)
    rw [HO.out]
    go_enter Tryz.func79, Tryz.ntmps79
    go_wp2_with fail
    go_ret
    exact ⟨rfl, rfl⟩
set_option maxHeartbeats 3200000 in
theorem refAlign_any (s : S) (x y z : Value) (w : World) (h : In w s x y z) (hok : Ok s) :
    Calls Tryz.prog 31 #[sv s x y z] w fun e w' => ∃ x' y' z', e = .returned (sv (alignS s) x' y' z') ∧ Own w' w.heap.size (alignS s) x' y' z' ∧ Below w.heap.size w w' := by
  have HAL : Hid (alignS s = { filledS s with cur := { s.cur with row := 0, col := 0, wrap := false } }) := Lib.hid rfl
  rw [HAL.out]
  have HROW : Hid (0 ≤ s.main.rows ∧ s.main.rows ≤ 40 ∧ (seenG s).rows = s.main.rows) := Lib.hid ⟨by have := hok.facts.r1; omega, hok.facts.r40, hok.facts.gr⟩
  have HG := Lib.hid hok.facts.g
  clear HAL
  have HI := Lib.hid h
  have H0 := Lib.hid (Rz.start w s x y z)
  have HL := Lib.hid hok.lens
  clear h hok
  go_enter Tryz.func31, Tryz.ntmps31
  go_wp2_with (first
    | (refine wp_allocS1 (w := w) rfl rfl ?_)
    | (refine wp_loadS (b := w.heap.size) (s := s) rfl rfl rfl H0.out.b0 ?_))
  refine (copyScreen_apart s x y z _ (HI.out.kept H0.out.bel) HL.out).mono ?_; rintro e w1 ⟨x1, y1, z1, rfl, ho, hap, hb⟩
  have H1 := Lib.hid (H0.out.kept hb)
  have HO1 := Lib.hid (ho.low H0.out.up)
  have HAP := Lib.hid hap
  clear ho hb hap H0 HI
  go_upto_region 2 with (refine wp_storeS_then (b := w.heap.size) (A := sarr s x1 y1 z1) (T := Pb w s x1 y1 z1) rfl rfl rfl rfl rfl HO1.out.in_.one H1.out.b0 rfl (fun _ k => Pb.start H1.out HO1.out k) ?_; intro w2 H2)
  go_simp
  change Code.wp _ _ _ _ w2
  clear H1 HO1
  go_wp2_with fail
  refine (refSeenM s x1 y1 z1 w.heap.size w2 H2.out.pn.box).mono ?_; rintro e w2' ⟨rfl, hw'⟩
  rw [← hw']
  clear hw'
  obtain ⟨g, n, cap, hX⟩ := seenX_some H2.out.pn HG.out
  have ho := H2.out.pn.cells hX
  have hn := ho.n
  subst hn
  have HF0 : Hid (Fl w2 (w.heap.size + 2) g (seenG s).cells.length cap (fillK (seenG s).cells 0) w2) := Lib.hid ⟨ho, Only.refl _ _, Below.refl _ _, H2.out.pn.up⟩
  have HSM := Lib.hid (gridB_small HG.out)
  have HEND : Hid (∀ W, Fl w2 (w.heap.size + 2) g (seenG s).cells.length cap (List.replicate (seenG s).cells.length eCell) W → Pb w (putG s { seenG s with cells := List.replicate (seenG s).cells.length eCell }) x1 y1 z1 W) := Lib.hid fun W k =>
    H2.out.near (H2.out.pn.over HAP.out hX k.own k.on k.on.1) (near_below (by omega) k.bel)
  have q := seat_arr s x1 y1 z1
  rw [hX] at q
  obtain ⟨p, hp⟩ : ∃ p, seatO s = p := ⟨_, rfl⟩
  rw [hp] at q ⊢
  have HCC : Hid (∀ l W, Fl w2 (w.heap.size + 2) g (seenG s).cells.length cap l W → W.cell? ⟨w.heap.size, p, none⟩ = some (.int .i64 (seenG s).rows) ∧ W.cell? ⟨w.heap.size, p + 2, none⟩ = some (.slice (some ⟨g, 0, none⟩) (seenG s).cells.length cap)) := Lib.hid fun l W k => by
    have hb : SBox W w.heap.size s x1 y1 z1 := k.on.2 _ _ (by have := (k.own.lt g rfl).1; omega) H2.out.pn.box
    exact ⟨(hb.cell _).trans q.1, (hb.cell _).trans q.2.2⟩
  have HL := Lib.hid (fun k (hk : k < (seenG s).cells.length) => fillK_step hk)
  have HLN := Lib.hid (fun k (hk : k ≤ (seenG s).cells.length) => fillK_len hk)
  have HLA := Lib.hid (fillK_all (seenG s).cells)
  have HSO := Lib.hid hp
  have HQE : Hid (∀ W l, Fl w2 (w.heap.size + 2) g (seenG s).cells.length cap l W → (Pb w (putG s { seenG s with cells := List.replicate (seenG s).cells.length eCell }) x1 y1 z1 W → True)) := Lib.hid fun _ _ _ _ => trivial
  clear hX ho q hp H2
  obtain ⟨m, hm⟩ : ∃ m, (seenG s).cells.length = m := ⟨_, rfl⟩
  rw [hm] at HF0 HSM HEND HCC HL HLN HLA
  have HMM := Lib.hid hm
  clear hm HQE
  have hm16 : m ≤ 1600 := HSM.out
  go_wp2_with fail
  go_loopw [4] (fun i wr => ∃ a : Nat, a ≤ m ∧ i = .int .i64 a ∧ Hid (Fl w2 (w.heap.size + 2) g m cap (fillK (seenG s).cells a) wr)) (fun i _ => m - (intOf i).toNat)
  case atStart => exact ⟨0, by omega, rfl, HF0⟩
  case round =>
    clear HF0
    obtain ⟨a, ha, rfl, HF⟩ := hrel
    obtain ⟨cp, cq⟩ := HCC.out _ wr HF.out
    by_cases hlt : a < m
    · have hka : a < (fillK (seenG s).cells a).length := by rw [HLN.out a ha]; exact hlt
      obtain ⟨dp, dq⟩ := HCC.out _ wr.drew (HF.out.kept (Below.refl _ _).drew)
      go_upto_region 6 with (fail)
      go_region_law (go_simp; go_at_call 65; refine (refPlain8 _).mono ?_; rintro e w3 ⟨rfl, hb⟩; have H3 := Lib.hid (HF.out.kept ((Below.refl _ _).drew.trans hb)); obtain ⟨tp, tq⟩ := HCC.out _ w3 H3.out; have hc : ∀ j, j < 6 → w3.cell? ⟨g, a * 6 + j, none⟩ = (cvals (Row.g (fillK (seenG s).cells a) a))[j]? := fun j hj => H3.out.own.cell hka hj; have ef : ∀ j, w3.frozen? ⟨g, j, none⟩ = false := H3.out.own.free; generalize Row.g (fillK (seenG s).cells a) a = fc at hc; obtain ⟨fr, fm, fw, ⟨fa, fb, fl⟩⟩ := fc; have e0 : w3.cell? ⟨g, a * 6, none⟩ = some (.int .i64 fr) := hc 0 (by decide); have e1 : w3.cell? ⟨g, a * 6 + 1, none⟩ = some (.string ⟨fm.toArray⟩) := hc 1 (by decide); have e2 : w3.cell? ⟨g, a * 6 + 2, none⟩ = some (.int .i64 fw) := hc 2 (by decide); have e3 : w3.cell? ⟨g, a * 6 + 3, none⟩ = some (.int .i64 fa) := hc 3 (by decide); have e4 : w3.cell? ⟨g, a * 6 + 4, none⟩ = some (.int .i64 fb) := hc 4 (by decide); have e5 : w3.cell? ⟨g, a * 6 + 5, none⟩ = some (.int .i64 fl) := hc 5 (by decide); clear hc hb)
      all_goals
        have HP : Hid (Fl w2 (w.heap.size + 2) g m cap (fillK (seenG s).cells (a + 1)) (putCell w3 g a eCell)) := Lib.hid (by
          have k := H3.out.put hka eCell
          rw [HL.out a hlt] at k
          exact k)
        go_wp2_with fail
        go_roundw
        case rel => exact ⟨a + 1, by omega, by go_num, HP⟩
        case measure => simp [intOf]; omega
    · obtain rfl : a = m := by omega
      rw [HLA.out] at HF
      have HB := Lib.hid (HEND.out wr HF.out)
      have HRW : Hid (∀ W x y z, Pb w (putG s { seenG s with cells := List.replicate a eCell }) x y z W → True) := Lib.hid fun _ _ _ _ _ => trivial
      have hw : IntKind.i64.wrap ((seenG s).rows - 1) = s.main.rows - 1 := by have := HROW.out; rw [IntKind.wrap_i64]; omega
      have c37 : wr.cell? ⟨w.heap.size, 37, none⟩ = some (.int .i64 s.top) := by rw [HB.out.pn.box.cell 37, sarr_37]; unfold putG; split <;> rfl
      have c38 : wr.cell? ⟨w.heap.size, 38, none⟩ = some (.int .i64 s.bottom) := by rw [HB.out.pn.box.cell 38, sarr_38]; unfold putG; split <;> rfl
      have f0 : ∀ j, wr.frozen? ⟨w.heap.size, j, none⟩ = false := HB.out.pn.box.free
      clear HRW
      go_upto_region 8 with (fail)
      change Code.wp _ _ _ _ ((wr.setCell ⟨w.heap.size, 37, none⟩ (.int .i64 0)).setCell ⟨w.heap.size, 38, none⟩ (.int .i64 (s.main.rows - 1)))
      have HE3 : Hid (filledS s = botS (topS (putG s { seenG s with cells := List.replicate a eCell }) 0) (s.main.rows - 1)) := Lib.hid (by rw [← HMM.out]; rfl)
      have H3 : Hid (Pb w (filledS s) x1 y1 z1 ((wr.setCell ⟨w.heap.size, 37, none⟩ (.int .i64 0)).setCell ⟨w.heap.size, 38, none⟩ (.int .i64 (s.main.rows - 1)))) := Lib.hid (by rw [HE3.out]; exact HB.out.cell2A 0 (s.main.rows - 1))
      clear c37 c38 f0 HB HF HE3 cp cq
      generalize (wr.setCell ⟨w.heap.size, 37, none⟩ (.int .i64 0)).setCell ⟨w.heap.size, 38, none⟩ (.int .i64 (s.main.rows - 1)) = w3 at H3 ⊢
      have c0 : ∀ j, w3.cell? ⟨w.heap.size, j, none⟩ = (sarr (filledS s) x1 y1 z1)[j]? := H3.out.pn.box.cell
      have f0 : ∀ j, w3.frozen? ⟨w.heap.size, j, none⟩ = false := H3.out.pn.box.free
      go_upto_region 9 with (fail)
      change Code.wp _ _ _ _ (((w3.setCell ⟨w.heap.size, 7, none⟩ (.int .i64 0)).setCell ⟨w.heap.size, 8, none⟩ (.int .i64 0)).setCell ⟨w.heap.size, 9, none⟩ (.bool false))
      have HCU : Hid ((filledS s).cur = s.cur) := Lib.hid (putG_wrap s _)
      have H4 : Hid (Pb w { filledS s with cur := { s.cur with row := 0, col := 0, wrap := false } } x1 y1 z1 (((w3.setCell ⟨w.heap.size, 7, none⟩ (.int .i64 0)).setCell ⟨w.heap.size, 8, none⟩ (.int .i64 0)).setCell ⟨w.heap.size, 9, none⟩ (.bool false))) := Lib.hid (by
        have k := ((H3.out.cell (s' := { filledS s with cur := { (filledS s).cur with row := 0 } }) 7 (.int .i64 0) (Blk.set H3.out.pn.box 7 _) rfl rfl rfl))
        have k2 := (k.cell (s' := { filledS s with cur := { (filledS s).cur with row := 0, col := 0 } }) 8 (.int .i64 0) (Blk.set k.pn.box 8 _) rfl rfl rfl)
        have k3 := (k2.cell (s' := { filledS s with cur := { (filledS s).cur with row := 0, col := 0, wrap := false } }) 9 (.bool false) (Blk.set k2.pn.box 9 _) rfl rfl rfl)
        rw [HCU.out] at k3
        exact k3)
      clear c0 f0 H3 HCU
      generalize ((w3.setCell ⟨w.heap.size, 7, none⟩ (.int .i64 0)).setCell ⟨w.heap.size, 8, none⟩ (.int .i64 0)).setCell ⟨w.heap.size, 9, none⟩ (.bool false) = w4 at H4 ⊢
      go_wp2_with (first
        | (refine wp_loadS (b := w.heap.size) (s := { filledS s with cur := { s.cur with row := 0, col := 0, wrap := false } }) rfl rfl rfl H4.out.pn.box ?_)
        | (refine wp_storeS (b := w.heap.size + 1) rfl rfl rfl rfl rfl H4.out.pn.own.in_.one H4.out.b1 rfl ?_; intro w9 h9))
      refine bodyPost_ret (ret1S rfl rfl h9.box) rfl ?_
      have hoo : Own w9 w.heap.size ({ filledS s with cur := { s.cur with row := 0, col := 0, wrap := false } }) x1 y1 z1 := Own.low (h9.own H4.out.pn.own (show w.heap.size + 1 < w.heap.size + 2 by omega)) (show w.heap.size ≤ w.heap.size + 2 by omega)
      exact ⟨_, _, _, rfl, hoo, h9.below _ _ (by omega) H4.out.bel⟩
end Scr
end Go.Proofs.YtceaoadlhdgnmaaGreatDoor
end
