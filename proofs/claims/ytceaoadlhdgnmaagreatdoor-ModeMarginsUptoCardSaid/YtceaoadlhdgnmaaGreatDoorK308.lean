/- Joined texts: MdMarg. -/
import Derived.Test.YtceaoadlhdgnmaaGreatDoorK302
section
/- Margins: the developers', for whatever screen and numbers. -/
namespace Go.Proofs.YtceaoadlhdgnmaaGreatDoor
set_option maxRecDepth 100000
open Go.RowKit
namespace Scr
open Go.Proofs.YtceaoadlhdgnmaaGreatDoor.Row Wid

theorem Pv.cell2 {B c : Nat} {w0 w : World} {s : S} {x y z : Value} (h : Pv B c w0 s x y z w) (t b : Int) : Pv B c w0 (botS (topS s t) b) x y z ((w.setCell ⟨w0.heap.size, 37, none⟩ (.int .i64 t)).setCell ⟨w0.heap.size, 38, none⟩ (.int .i64 b)) :=
  h.to fun v e k => by
    have q := (k.top t).bot b
    rw [e] at q
    exact q
theorem Pv.put {B c C : Nat} {w0 w w' : World} {s X : S} {x y z x' y' z' : Value} (h : Pv B c w0 s x y z w) (ho : Own w C X x' y' z') (hC : w0.heap.size + 2 ≤ C) (hs : Sto w w0.heap.size (sarr X x' y' z') w') : Pv B c w0 X x' y' z' w' :=
  h.to fun v e k => (k.put ho (by omega) (by rw [e]; exact hs)).1
set_option maxHeartbeats 3200000 in
theorem marg_n0 (w0 : World) (B c : Nat) (s : S) (x y z : Value) (n m : Int) (a1 a2 : Nat) (w : World) (h : Pb w0 s x y z w) (hok : Ok s) (hT : ∀ W, Below B w0 W → Tabs W) (hB1 : B ≤ a1) (hB2 : B ≤ a2) (l1 : a1 < w0.heap.size) (l2 : a2 < w0.heap.size) (hne : a2 ≠ a1) (hc1 : c ≠ a1) (hc2 : c ≠ a2)
    (h1 : w.heap[a1]? = some (nbx n)) (h2 : w.heap[a2]? = some (nbx m)) (hm : m ≤ 0) (hn9 : n ≤ 9999) (hc : ¬ max n 1 < s.main.rows) :
    Calls Tryz.prog 71 #[.pointer (some ⟨w0.heap.size, 0, none⟩), .pointer (some ⟨a1, 0, none⟩), .pointer (some ⟨a2, 0, none⟩)] w fun e w' => e = .returned (.tuple #[]) ∧ ∃ x' y' z', Pv B c w0 (s) x' y' z' w' := by
  have HP0 : Hid (Pv B c w0 s x y z w) := Lib.hid (Pv.start h)
  have HT := Lib.hid hT
  have HOK := Lib.hid hok
  have HBB : Hid (B ≤ w0.heap.size) := Lib.hid (by omega)
  have c0 : w.cell? ⟨w0.heap.size, 0, none⟩ = some (.int .i64 s.main.rows) := h.pn.box.cell 0
  have c1 : w.cell? ⟨a1, 0, none⟩ = some (.int .i64 n) := Blk.cell h1 0
  have f1 : w.frozen? ⟨a1, 0, none⟩ = false := Blk.free h1 0
  have HP1 : Hid (Pv B c w0 s x y z (w.setCell ⟨a1, 0, none⟩ (.int .i64 (max n 1)))) := Lib.hid (HP0.out.side h1 hB1 l1 hc1 _)
  have HX1 : Hid ((w.setCell ⟨a1, 0, none⟩ (.int .i64 (max n 1))).heap[a1]? = some (nbx (max n 1))) := Lib.hid (Blk.set h1 0 _)
  have HX2 : Hid ((w.setCell ⟨a1, 0, none⟩ (.int .i64 (max n 1))).heap[a2]? = some (nbx m)) := Lib.hid (Blk.other h2 hne 0 _)
  have HF := Lib.hid hok.facts
  clear h hok hT h1 h2
  go_enter Tryz.func71, Tryz.ntmps71
  go_upto_region 2 with (fail)
  change Code.wp _ _ _ _ (w.setCell ⟨a1, 0, none⟩ (.int .i64 (max n 1)))
  clear c0 c1 f1 HP0
  generalize w.setCell ⟨a1, 0, none⟩ (.int .i64 (max n 1)) = w1 at HP1 HX1 HX2 ⊢
  have HN1 : Hid (max n 1 ≤ 9999 ∧ 1 ≤ max n 1) := Lib.hid (by omega)
  obtain ⟨N, hN⟩ : ∃ N, max n 1 = N := ⟨_, rfl⟩
  have HNE := Lib.hid hN
  rw [hN] at HX1 HN1 hc
  rw [hN]
  clear hN
  have c2 : w1.cell? ⟨a2, 0, none⟩ = some (.int .i64 m) := Blk.cell HX2.out 0
  have f2 : w1.frozen? ⟨a2, 0, none⟩ = false := Blk.free HX2.out 0
  have HP2 : Hid (Pv B c w0 s x y z (w1.setCell ⟨a2, 0, none⟩ (.int .i64 s.main.rows))) := Lib.hid (HP1.out.side HX2.out hB2 l2 hc2 _)
  have HY1 : Hid ((w1.setCell ⟨a2, 0, none⟩ (.int .i64 s.main.rows)).heap[a1]? = some (nbx N)) := Lib.hid (Blk.other HX1.out (Ne.symm hne) 0 _)
  have HY2 : Hid ((w1.setCell ⟨a2, 0, none⟩ (.int .i64 s.main.rows)).heap[a2]? = some (nbx s.main.rows)) := Lib.hid (Blk.set HX2.out 0 _)
  go_upto_region 4 with (fail)
  change Code.wp _ _ _ _ (w1.setCell ⟨a2, 0, none⟩ (.int .i64 s.main.rows))
  clear c2 f2 HP1 HX1 HX2
  generalize w1.setCell ⟨a2, 0, none⟩ (.int .i64 s.main.rows) = w2 at HP2 HY1 HY2 ⊢
  have c2 : w2.cell? ⟨a2, 0, none⟩ = some (.int .i64 s.main.rows) := Blk.cell HY2.out 0
  have c1 : w2.cell? ⟨a1, 0, none⟩ = some (.int .i64 N) := Blk.cell HY1.out 0
  go_wp2_with fail
  go_end0
  exact ⟨rfl, _, _, _, HP2.out⟩
set_option maxHeartbeats 3200000 in
theorem marg_n2 (w0 : World) (B c : Nat) (s : S) (x y z : Value) (n m : Int) (a1 a2 : Nat) (w : World) (h : Pb w0 s x y z w) (hok : Ok s) (hT : ∀ W, Below B w0 W → Tabs W) (hB1 : B ≤ a1) (hB2 : B ≤ a2) (l1 : a1 < w0.heap.size) (l2 : a2 < w0.heap.size) (hne : a2 ≠ a1) (hc1 : c ≠ a1) (hc2 : c ≠ a2)
    (h1 : w.heap[a1]? = some (nbx n)) (h2 : w.heap[a2]? = some (nbx m)) (hm : m ≤ 0) (hn9 : n ≤ 9999) (hc : max n 1 < s.main.rows)  :
    Calls Tryz.prog 71 #[.pointer (some ⟨w0.heap.size, 0, none⟩), .pointer (some ⟨a1, 0, none⟩), .pointer (some ⟨a2, 0, none⟩)] w fun e w' => e = .returned (.tuple #[]) ∧ ∃ x' y' z', Pv B c w0 (moveS (botS (topS s (max n 1 - 1)) (s.main.rows - 1)) 72 1 1) x' y' z' w' := by
  have HP0 : Hid (Pv B c w0 s x y z w) := Lib.hid (Pv.start h)
  have HT := Lib.hid hT
  have HOK := Lib.hid hok
  have HBB : Hid (B ≤ w0.heap.size) := Lib.hid (by omega)
  have c0 : w.cell? ⟨w0.heap.size, 0, none⟩ = some (.int .i64 s.main.rows) := h.pn.box.cell 0
  have c1 : w.cell? ⟨a1, 0, none⟩ = some (.int .i64 n) := Blk.cell h1 0
  have f1 : w.frozen? ⟨a1, 0, none⟩ = false := Blk.free h1 0
  have HP1 : Hid (Pv B c w0 s x y z (w.setCell ⟨a1, 0, none⟩ (.int .i64 (max n 1)))) := Lib.hid (HP0.out.side h1 hB1 l1 hc1 _)
  have HX1 : Hid ((w.setCell ⟨a1, 0, none⟩ (.int .i64 (max n 1))).heap[a1]? = some (nbx (max n 1))) := Lib.hid (Blk.set h1 0 _)
  have HX2 : Hid ((w.setCell ⟨a1, 0, none⟩ (.int .i64 (max n 1))).heap[a2]? = some (nbx m)) := Lib.hid (Blk.other h2 hne 0 _)
  have HF := Lib.hid hok.facts
  clear h hok hT h1 h2
  go_enter Tryz.func71, Tryz.ntmps71
  go_upto_region 2 with (fail)
  change Code.wp _ _ _ _ (w.setCell ⟨a1, 0, none⟩ (.int .i64 (max n 1)))
  clear c0 c1 f1 HP0
  generalize w.setCell ⟨a1, 0, none⟩ (.int .i64 (max n 1)) = w1 at HP1 HX1 HX2 ⊢
  have HN1 : Hid (max n 1 ≤ 9999 ∧ 1 ≤ max n 1) := Lib.hid (by omega)
  obtain ⟨N, hN⟩ : ∃ N, max n 1 = N := ⟨_, rfl⟩
  have HNE := Lib.hid hN
  rw [hN] at HX1 HN1 hc
  rw [hN]
  clear hN
  have c2 : w1.cell? ⟨a2, 0, none⟩ = some (.int .i64 m) := Blk.cell HX2.out 0
  have f2 : w1.frozen? ⟨a2, 0, none⟩ = false := Blk.free HX2.out 0
  have HP2 : Hid (Pv B c w0 s x y z (w1.setCell ⟨a2, 0, none⟩ (.int .i64 s.main.rows))) := Lib.hid (HP1.out.side HX2.out hB2 l2 hc2 _)
  have HY1 : Hid ((w1.setCell ⟨a2, 0, none⟩ (.int .i64 s.main.rows)).heap[a1]? = some (nbx N)) := Lib.hid (Blk.other HX1.out (Ne.symm hne) 0 _)
  have HY2 : Hid ((w1.setCell ⟨a2, 0, none⟩ (.int .i64 s.main.rows)).heap[a2]? = some (nbx s.main.rows)) := Lib.hid (Blk.set HX2.out 0 _)
  go_upto_region 4 with (fail)
  change Code.wp _ _ _ _ (w1.setCell ⟨a2, 0, none⟩ (.int .i64 s.main.rows))
  clear c2 f2 HP1 HX1 HX2
  generalize w1.setCell ⟨a2, 0, none⟩ (.int .i64 s.main.rows) = w2 at HP2 HY1 HY2 ⊢
  have c2 : w2.cell? ⟨a2, 0, none⟩ = some (.int .i64 s.main.rows) := Blk.cell HY2.out 0
  have c1 : w2.cell? ⟨a1, 0, none⟩ = some (.int .i64 N) := Blk.cell HY1.out 0
  have HR40 : Hid (s.main.rows ≤ 40) := Lib.hid HF.out.r40
  have hw1 : IntKind.i64.wrap (N - 1) = N - 1 := by have := HN1.out; rw [IntKind.wrap_i64]; omega
  have hw2 : IntKind.i64.wrap (s.main.rows - 1) = s.main.rows - 1 := by have := HR40.out; have := HN1.out; rw [IntKind.wrap_i64]; omega
  go_upto_region 5 with (fail)
  have q37 : w2.cell? ⟨w0.heap.size, 37, none⟩ = some (.int .i64 s.top) := HP2.out.pn.box.cell 37
  have q38 : w2.cell? ⟨w0.heap.size, 38, none⟩ = some (.int .i64 s.bottom) := HP2.out.pn.box.cell 38
  have fq : ∀ j, w2.frozen? ⟨w0.heap.size, j, none⟩ = false := HP2.out.pn.box.free
  go_region
  all_goals
    change Exit.then _ _ _ _ ((w2.setCell ⟨w0.heap.size, 37, none⟩ (.int .i64 (N - 1))).setCell ⟨w0.heap.size, 38, none⟩ (.int .i64 (s.main.rows - 1))).drew
    have H3 := Lib.hid ((HP2.out.cell2 (N - 1) (s.main.rows - 1)).kept (Below.refl _ _).drew)
    have HOK3 : Hid (Ok (botS (topS s (N - 1)) (s.main.rows - 1))) := Lib.hid (tops_ok HOK.out (t := N - 1) (b := s.main.rows - 1) (by have := HN1.out; omega) (by omega) (by omega))
    clear q37 q38 fq c1 c2
    generalize ((w2.setCell ⟨w0.heap.size, 37, none⟩ (.int .i64 (N - 1))).setCell ⟨w0.heap.size, 38, none⟩ (.int .i64 (s.main.rows - 1))).drew = w3 at H3 ⊢
    go_wp2_with (refine wp_loadS (b := w0.heap.size) (s := botS (topS s (N - 1)) (s.main.rows - 1)) rfl rfl rfl H3.out.pn.box ?_)
    refine (homeD (botS (topS s (N - 1)) (s.main.rows - 1)) x y z w3 H3.out.pn.own.in_ HOK3.out.holds (HT.out _ (H3.out.bel HBB.out))).mono ?_; rintro e w4 ⟨X, x4, y4, z4, code, rfl, hans⟩
    obtain rfl := hans.yes ((ok_iff _).2 HOK3.out)
    have H4 := Lib.hid (H3.out.kept hans.bel)
    have HW := Lib.hid hans.own
    have HU := Lib.hid H3.out.pn.up
    clear hans H3
    go_wp2_with (refine wp_storeS (b := w0.heap.size) (A := sarr (homeS (botS (topS s (N - 1)) (s.main.rows - 1))) x4 y4 z4) rfl rfl rfl rfl rfl HW.out.in_.one H4.out.pn.box rfl ?_; intro w5 h5)
    go_end0
    have hq := H4.out.put HW.out HU.out h5
    rw [← HNE.out] at hq
    exact ⟨rfl, _, _, _, hq⟩
set_option maxHeartbeats 3200000 in
theorem marg_m0 (w0 : World) (B c : Nat) (s : S) (x y z : Value) (n m : Int) (a1 a2 : Nat) (w : World) (h : Pb w0 s x y z w) (hok : Ok s) (hT : ∀ W, Below B w0 W → Tabs W) (hB1 : B ≤ a1) (l1 : a1 < w0.heap.size) (hne : a2 ≠ a1) (hc1 : c ≠ a1)
    (h1 : w.heap[a1]? = some (nbx n)) (h2 : w.heap[a2]? = some (nbx m)) (hm : ¬ m ≤ 0) (hn9 : n ≤ 9999) (hc : ¬ max n 1 < m) :
    Calls Tryz.prog 71 #[.pointer (some ⟨w0.heap.size, 0, none⟩), .pointer (some ⟨a1, 0, none⟩), .pointer (some ⟨a2, 0, none⟩)] w fun e w' => e = .returned (.tuple #[]) ∧ ∃ x' y' z', Pv B c w0 (s) x' y' z' w' := by
  have HP0 : Hid (Pv B c w0 s x y z w) := Lib.hid (Pv.start h)
  have HT := Lib.hid hT
  have HOK := Lib.hid hok
  have HBB : Hid (B ≤ w0.heap.size) := Lib.hid (by omega)
  have c0 : w.cell? ⟨w0.heap.size, 0, none⟩ = some (.int .i64 s.main.rows) := h.pn.box.cell 0
  have c1 : w.cell? ⟨a1, 0, none⟩ = some (.int .i64 n) := Blk.cell h1 0
  have f1 : w.frozen? ⟨a1, 0, none⟩ = false := Blk.free h1 0
  have HP1 : Hid (Pv B c w0 s x y z (w.setCell ⟨a1, 0, none⟩ (.int .i64 (max n 1)))) := Lib.hid (HP0.out.side h1 hB1 l1 hc1 _)
  have HX1 : Hid ((w.setCell ⟨a1, 0, none⟩ (.int .i64 (max n 1))).heap[a1]? = some (nbx (max n 1))) := Lib.hid (Blk.set h1 0 _)
  have HX2 : Hid ((w.setCell ⟨a1, 0, none⟩ (.int .i64 (max n 1))).heap[a2]? = some (nbx m)) := Lib.hid (Blk.other h2 hne 0 _)
  have HF := Lib.hid hok.facts
  clear h hok hT h1 h2
  go_enter Tryz.func71, Tryz.ntmps71
  go_upto_region 2 with (fail)
  change Code.wp _ _ _ _ (w.setCell ⟨a1, 0, none⟩ (.int .i64 (max n 1)))
  clear c0 c1 f1 HP0
  generalize w.setCell ⟨a1, 0, none⟩ (.int .i64 (max n 1)) = w1 at HP1 HX1 HX2 ⊢
  have HN1 : Hid (max n 1 ≤ 9999 ∧ 1 ≤ max n 1) := Lib.hid (by omega)
  obtain ⟨N, hN⟩ : ∃ N, max n 1 = N := ⟨_, rfl⟩
  have HNE := Lib.hid hN
  rw [hN] at HX1 HN1 hc
  rw [hN]
  clear hN
  have c2 : w1.cell? ⟨a2, 0, none⟩ = some (.int .i64 m) := Blk.cell HX2.out 0
  have c1 : w1.cell? ⟨a1, 0, none⟩ = some (.int .i64 N) := Blk.cell HX1.out 0
  go_wp2_with fail
  go_end0
  exact ⟨rfl, _, _, _, HP1.out⟩
set_option maxHeartbeats 3200000 in
theorem marg_m1 (w0 : World) (B c : Nat) (s : S) (x y z : Value) (n m : Int) (a1 a2 : Nat) (w : World) (h : Pb w0 s x y z w) (hok : Ok s) (hT : ∀ W, Below B w0 W → Tabs W) (hB1 : B ≤ a1) (l1 : a1 < w0.heap.size) (hne : a2 ≠ a1) (hc1 : c ≠ a1)
    (h1 : w.heap[a1]? = some (nbx n)) (h2 : w.heap[a2]? = some (nbx m)) (hm : ¬ m ≤ 0) (hn9 : n ≤ 9999) (hc : max n 1 < m) (hr : ¬ m ≤ s.main.rows) :
    Calls Tryz.prog 71 #[.pointer (some ⟨w0.heap.size, 0, none⟩), .pointer (some ⟨a1, 0, none⟩), .pointer (some ⟨a2, 0, none⟩)] w fun e w' => e = .returned (.tuple #[]) ∧ ∃ x' y' z', Pv B c w0 (s) x' y' z' w' := by
  have HP0 : Hid (Pv B c w0 s x y z w) := Lib.hid (Pv.start h)
  have HT := Lib.hid hT
  have HOK := Lib.hid hok
  have HBB : Hid (B ≤ w0.heap.size) := Lib.hid (by omega)
  have c0 : w.cell? ⟨w0.heap.size, 0, none⟩ = some (.int .i64 s.main.rows) := h.pn.box.cell 0
  have c1 : w.cell? ⟨a1, 0, none⟩ = some (.int .i64 n) := Blk.cell h1 0
  have f1 : w.frozen? ⟨a1, 0, none⟩ = false := Blk.free h1 0
  have HP1 : Hid (Pv B c w0 s x y z (w.setCell ⟨a1, 0, none⟩ (.int .i64 (max n 1)))) := Lib.hid (HP0.out.side h1 hB1 l1 hc1 _)
  have HX1 : Hid ((w.setCell ⟨a1, 0, none⟩ (.int .i64 (max n 1))).heap[a1]? = some (nbx (max n 1))) := Lib.hid (Blk.set h1 0 _)
  have HX2 : Hid ((w.setCell ⟨a1, 0, none⟩ (.int .i64 (max n 1))).heap[a2]? = some (nbx m)) := Lib.hid (Blk.other h2 hne 0 _)
  have HF := Lib.hid hok.facts
  clear h hok hT h1 h2
  go_enter Tryz.func71, Tryz.ntmps71
  go_upto_region 2 with (fail)
  change Code.wp _ _ _ _ (w.setCell ⟨a1, 0, none⟩ (.int .i64 (max n 1)))
  clear c0 c1 f1 HP0
  generalize w.setCell ⟨a1, 0, none⟩ (.int .i64 (max n 1)) = w1 at HP1 HX1 HX2 ⊢
  have HN1 : Hid (max n 1 ≤ 9999 ∧ 1 ≤ max n 1) := Lib.hid (by omega)
  obtain ⟨N, hN⟩ : ∃ N, max n 1 = N := ⟨_, rfl⟩
  have HNE := Lib.hid hN
  rw [hN] at HX1 HN1 hc
  rw [hN]
  clear hN
  have c2 : w1.cell? ⟨a2, 0, none⟩ = some (.int .i64 m) := Blk.cell HX2.out 0
  have c1 : w1.cell? ⟨a1, 0, none⟩ = some (.int .i64 N) := Blk.cell HX1.out 0
  go_wp2_with fail
  go_end0
  exact ⟨rfl, _, _, _, HP1.out⟩
set_option maxHeartbeats 3200000 in
theorem marg_m2 (w0 : World) (B c : Nat) (s : S) (x y z : Value) (n m : Int) (a1 a2 : Nat) (w : World) (h : Pb w0 s x y z w) (hok : Ok s) (hT : ∀ W, Below B w0 W → Tabs W) (hB1 : B ≤ a1) (l1 : a1 < w0.heap.size) (hne : a2 ≠ a1) (hc1 : c ≠ a1)
    (h1 : w.heap[a1]? = some (nbx n)) (h2 : w.heap[a2]? = some (nbx m)) (hm : ¬ m ≤ 0) (hn9 : n ≤ 9999) (hc : max n 1 < m) (hr : m ≤ s.main.rows) :
    Calls Tryz.prog 71 #[.pointer (some ⟨w0.heap.size, 0, none⟩), .pointer (some ⟨a1, 0, none⟩), .pointer (some ⟨a2, 0, none⟩)] w fun e w' => e = .returned (.tuple #[]) ∧ ∃ x' y' z', Pv B c w0 (moveS (botS (topS s (max n 1 - 1)) (m - 1)) 72 1 1) x' y' z' w' := by
  have HP0 : Hid (Pv B c w0 s x y z w) := Lib.hid (Pv.start h)
  have HT := Lib.hid hT
  have HOK := Lib.hid hok
  have HBB : Hid (B ≤ w0.heap.size) := Lib.hid (by omega)
  have c0 : w.cell? ⟨w0.heap.size, 0, none⟩ = some (.int .i64 s.main.rows) := h.pn.box.cell 0
  have c1 : w.cell? ⟨a1, 0, none⟩ = some (.int .i64 n) := Blk.cell h1 0
  have f1 : w.frozen? ⟨a1, 0, none⟩ = false := Blk.free h1 0
  have HP1 : Hid (Pv B c w0 s x y z (w.setCell ⟨a1, 0, none⟩ (.int .i64 (max n 1)))) := Lib.hid (HP0.out.side h1 hB1 l1 hc1 _)
  have HX1 : Hid ((w.setCell ⟨a1, 0, none⟩ (.int .i64 (max n 1))).heap[a1]? = some (nbx (max n 1))) := Lib.hid (Blk.set h1 0 _)
  have HX2 : Hid ((w.setCell ⟨a1, 0, none⟩ (.int .i64 (max n 1))).heap[a2]? = some (nbx m)) := Lib.hid (Blk.other h2 hne 0 _)
  have HF := Lib.hid hok.facts
  clear h hok hT h1 h2
  go_enter Tryz.func71, Tryz.ntmps71
  go_upto_region 2 with (fail)
  change Code.wp _ _ _ _ (w.setCell ⟨a1, 0, none⟩ (.int .i64 (max n 1)))
  clear c0 c1 f1 HP0
  generalize w.setCell ⟨a1, 0, none⟩ (.int .i64 (max n 1)) = w1 at HP1 HX1 HX2 ⊢
  have HN1 : Hid (max n 1 ≤ 9999 ∧ 1 ≤ max n 1) := Lib.hid (by omega)
  obtain ⟨N, hN⟩ : ∃ N, max n 1 = N := ⟨_, rfl⟩
  have HNE := Lib.hid hN
  rw [hN] at HX1 HN1 hc
  rw [hN]
  clear hN
  have c2 : w1.cell? ⟨a2, 0, none⟩ = some (.int .i64 m) := Blk.cell HX2.out 0
  have c1 : w1.cell? ⟨a1, 0, none⟩ = some (.int .i64 N) := Blk.cell HX1.out 0
  have HR40 : Hid (s.main.rows ≤ 40) := Lib.hid HF.out.r40
  have hw1 : IntKind.i64.wrap (N - 1) = N - 1 := by have := HN1.out; rw [IntKind.wrap_i64]; omega
  have hw2 : IntKind.i64.wrap (m - 1) = m - 1 := by have := HR40.out; have := HN1.out; rw [IntKind.wrap_i64]; omega
  go_upto_region 5 with (fail)
  have q37 : w1.cell? ⟨w0.heap.size, 37, none⟩ = some (.int .i64 s.top) := HP1.out.pn.box.cell 37
  have q38 : w1.cell? ⟨w0.heap.size, 38, none⟩ = some (.int .i64 s.bottom) := HP1.out.pn.box.cell 38
  have fq : ∀ j, w1.frozen? ⟨w0.heap.size, j, none⟩ = false := HP1.out.pn.box.free
  go_region
  all_goals
    change Exit.then _ _ _ _ ((w1.setCell ⟨w0.heap.size, 37, none⟩ (.int .i64 (N - 1))).setCell ⟨w0.heap.size, 38, none⟩ (.int .i64 (m - 1))).drew
    have H3 := Lib.hid ((HP1.out.cell2 (N - 1) (m - 1)).kept (Below.refl _ _).drew)
    have HOK3 : Hid (Ok (botS (topS s (N - 1)) (m - 1))) := Lib.hid (tops_ok HOK.out (t := N - 1) (b := m - 1) (by have := HN1.out; omega) (by omega) (by omega))
    clear q37 q38 fq c1 c2
    generalize ((w1.setCell ⟨w0.heap.size, 37, none⟩ (.int .i64 (N - 1))).setCell ⟨w0.heap.size, 38, none⟩ (.int .i64 (m - 1))).drew = w3 at H3 ⊢
    go_wp2_with (refine wp_loadS (b := w0.heap.size) (s := botS (topS s (N - 1)) (m - 1)) rfl rfl rfl H3.out.pn.box ?_)
    refine (homeD (botS (topS s (N - 1)) (m - 1)) x y z w3 H3.out.pn.own.in_ HOK3.out.holds (HT.out _ (H3.out.bel HBB.out))).mono ?_; rintro e w4 ⟨X, x4, y4, z4, code, rfl, hans⟩
    obtain rfl := hans.yes ((ok_iff _).2 HOK3.out)
    have H4 := Lib.hid (H3.out.kept hans.bel)
    have HW := Lib.hid hans.own
    have HU := Lib.hid H3.out.pn.up
    clear hans H3
    go_wp2_with (refine wp_storeS (b := w0.heap.size) (A := sarr (homeS (botS (topS s (N - 1)) (m - 1))) x4 y4 z4) rfl rfl rfl rfl rfl HW.out.in_.one H4.out.pn.box rfl ?_; intro w5 h5)
    go_end0
    have hq := H4.out.put HW.out HU.out h5
    rw [← HNE.out] at hq
    exact ⟨rfl, _, _, _, hq⟩
theorem marg_any (w0 : World) (B c : Nat) (s : S) (x y z : Value) (n m : Int) (a1 a2 : Nat) (w : World) (h : Pb w0 s x y z w) (hok : Ok s) (hT : ∀ W, Below B w0 W → Tabs W) (hB1 : B ≤ a1) (hB2 : B ≤ a2) (l1 : a1 < w0.heap.size) (l2 : a2 < w0.heap.size) (hne : a2 ≠ a1) (hc1 : c ≠ a1) (hc2 : c ≠ a2)
    (h1 : w.heap[a1]? = some (nbx n)) (h2 : w.heap[a2]? = some (nbx m)) (hn9 : n ≤ 9999) :
    Calls Tryz.prog 71 #[.pointer (some ⟨w0.heap.size, 0, none⟩), .pointer (some ⟨a1, 0, none⟩), .pointer (some ⟨a2, 0, none⟩)] w fun e w' => e = .returned (.tuple #[]) ∧ ∃ x' y' z', Pv B c w0 (marginsS s n m) x' y' z' w' := by
  unfold marginsS
  by_cases hm : m ≤ 0
  · rw [if_pos hm]
    by_cases hc : max n 1 < s.main.rows
    · rw [if_pos ⟨hc, Int.le_refl _⟩]
      exact marg_n2 w0 B c s x y z n m a1 a2 w h hok hT hB1 hB2 l1 l2 hne hc1 hc2 h1 h2 hm hn9 hc
    · rw [if_neg (fun q => hc q.1)]
      exact marg_n0 w0 B c s x y z n m a1 a2 w h hok hT hB1 hB2 l1 l2 hne hc1 hc2 h1 h2 hm hn9 hc
  · rw [if_neg hm]
    by_cases hc : max n 1 < m
    · by_cases hr : m ≤ s.main.rows
      · rw [if_pos ⟨hc, hr⟩]
        exact marg_m2 w0 B c s x y z n m a1 a2 w h hok hT hB1 l1 hne hc1 h1 h2 hm hn9 hc hr
      · rw [if_neg (fun q => hr q.2)]
        exact marg_m1 w0 B c s x y z n m a1 a2 w h hok hT hB1 l1 hne hc1 h1 h2 hm hn9 hc hr
    · rw [if_neg (fun q => hc q.1)]
      exact marg_m0 w0 B c s x y z n m a1 a2 w h hok hT hB1 l1 hne hc1 h1 h2 hm hn9 hc
abbrev w4S (w : World) (s : S) (x y z : Value) (n m : Int) : World := (((w.alloc (sbx s x y z)).alloc (nbx n)).alloc (nbx m)).alloc zbx
theorem w4S_facts (w : World) (s : S) (x y z : Value) (n m : Int) : Sb w (w.heap.size + 3) s x y z (w4S w s x y z n m) ∧ (w4S w s x y z n m).heap[w.heap.size + 1]? = some (nbx n) ∧ (w4S w s x y z n m).heap[w.heap.size + 1 + 1]? = some (nbx m) := by
  have h1 := bel_alloc w (sbx s x y z)
  have h2 := bel_alloc (w.alloc (sbx s x y z)) (nbx n)
  have h3 := bel_alloc ((w.alloc (sbx s x y z)).alloc (nbx n)) (nbx m)
  have h4 := bel_alloc (((w.alloc (sbx s x y z)).alloc (nbx n)).alloc (nbx m)) zbx
  have e2 : (w.alloc (sbx s x y z)).heap.size = w.heap.size + 1 := by simp
  have e3 : ((w.alloc (sbx s x y z)).alloc (nbx n)).heap.size = w.heap.size + 1 + 1 := by simp
  have e4 : (((w.alloc (sbx s x y z)).alloc (nbx n)).alloc (nbx m)).heap.size = w.heap.size + 3 := by simp
  have x1 : (w.alloc (sbx s x y z)).heap[w.heap.size]? = some (sbx s x y z) := heap_alloc_new _ _
  have x2 : ((w.alloc (sbx s x y z)).alloc (nbx n)).heap[w.heap.size + 1]? = some (nbx n) := by rw [← e2]; exact heap_alloc_new _ _
  have x3 : (((w.alloc (sbx s x y z)).alloc (nbx n)).alloc (nbx m)).heap[w.heap.size + 1 + 1]? = some (nbx m) := by rw [← e3]; exact heap_alloc_new _ _
  have x4 : (w4S w s x y z n m).heap[w.heap.size + 3]? = some zbx := by show (World.alloc _ _).heap[w.heap.size + 3]? = _; rw [← e4]; exact heap_alloc_new _ _
  exact ⟨⟨h1.trans ((h2.trans ((h3.trans (h4.mono h3.size)).mono h2.size)).mono h1.size), Blk.kept (Blk.kept (Blk.kept x1 h2) h3) h4, x4, by omega⟩, Blk.kept (Blk.kept x2 h3) h4, Blk.kept x3 h4⟩
set_option maxHeartbeats 6400000 in
theorem marginsD (s : S) (x y z : Value) (n m : Int) (w : World) (h : In w s x y z) (hh : Holds s) (hT : Tabs w) :
    Calls Tryz.prog 24 #[sv s x y z, .int .i64 n, .int .i64 m] w fun e w' => ∃ X x' y' z' code, e = .returned (.tuple #[sv X x' y' z', .int .i64 code]) ∧ Ans w w' (okB s && (numB n && numB m)) (marginsS s n m) X x' y' z' code := by
  obtain ⟨hS, k1, k2⟩ := w4S_facts w s x y z n m
  have HS := Lib.hid hS
  have HI := Lib.hid (h.kept hS.bel)
  have HT := Lib.hid (hT.kept hS.bel)
  have HTB : Hid (∀ W, Below w.heap.size (w4S w s x y z n m) W → Tabs W) := Lib.hid fun W hb => hT.kept (hS.bel.trans hb)
  have HH := Lib.hid hh
  have HK1 := Lib.hid k1
  have HK2 := Lib.hid k2
  have q1 : (w4S w s x y z n m).cell? ⟨w.heap.size + 1, 0, none⟩ = some (.int .i64 n) := Blk.cell k1 0
  have q2 : (w4S w s x y z n m).cell? ⟨w.heap.size + 1 + 1, 0, none⟩ = some (.int .i64 m) := Blk.cell k2 0
  have HLT : Hid (w.heap.size ≤ (w4S w s x y z n m).heap.size ∧ w.heap.size + 3 < (w4S w s x y z n m).heap.size) := Lib.hid ⟨hS.bel.size, Blk.lt hS.bc⟩
  clear h hh hT hS k1 k2
  go_enter Tryz.func24, Tryz.ntmps24
  go_upto_region 1 with (refine wp_allocS3 rfl rfl ?_)
  go_simp
  change Code.wp _ _ _ _ (w4S w s x y z n m)
  generalize w4S w s x y z n m = w4 at HS HI HT HTB HK1 HK2 q1 q2 HLT ⊢
  have HCL : Hid (okB s = true → numB n = true → ∀ W x' y' z', Pb w4 s x' y' z' W → Apart x' y' → _) := Lib.hid (fun hok hn W x' y' z' k _ => marg_any w4 w.heap.size (w.heap.size + 3) s x' y' z' n m (w.heap.size + 1) (w.heap.size + 1 + 1) W k ((ok_iff s).1 hok) HTB.out (by omega) (by omega) (by have := HLT.out; omega) (by have := HLT.out; omega) (by omega) (by omega) (by omega) (Blk.kept HK1.out k.bel) (Blk.kept HK2.out k.bel) (numB_iff.1 hn).2)
  cases hn : numB n
  · have HM : Hid ((okB s && (numB n && numB m)) = false) := Lib.hid (by rw [hn, Bool.false_and, Bool.and_false])
    go_wp2_with fail
    refine (isCountM_any n w4).mono ?_; rintro e w5' ⟨rfl, rfl⟩
    rw [hn]
    go_wp2_with (refine wp_storeS (b := w.heap.size + 3) (A := zarr) rfl rfl rfl rfl rfl (sarr_one rfl rfl rfl) HS.out.bc rfl ?_; intro w7 h7)
    refine bodyPost_ret (ret2S (s := noS) (x := nilS) (y := nilS) (z := nilS) rfl rfl h7.box rfl) rfl ?_
    exact ⟨_, _, _, _, _, rfl, ans_no HM.out (h7.below _ _ (Nat.le_of_lt HS.out.lt) HS.out.bel)⟩
  · cases hm : numB m
    · have HM : Hid ((okB s && (numB n && numB m)) = false) := Lib.hid (by rw [hm, Bool.and_false, Bool.and_false])
      go_wp2_with fail
      refine (isCountM_any n w4).mono ?_; rintro e w5' ⟨rfl, rfl⟩
      rw [hn]
      go_wp2_with fail
      refine (isCountM_any m w4).mono ?_; rintro e w5' ⟨rfl, rfl⟩
      rw [hm]
      go_wp2_with (refine wp_storeS (b := w.heap.size + 3) (A := zarr) rfl rfl rfl rfl rfl (sarr_one rfl rfl rfl) HS.out.bc rfl ?_; intro w7 h7)
      refine bodyPost_ret (ret2S (s := noS) (x := nilS) (y := nilS) (z := nilS) rfl rfl h7.box rfl) rfl ?_
      exact ⟨_, _, _, _, _, rfl, ans_no HM.out (h7.below _ _ (Nat.le_of_lt HS.out.lt) HS.out.bel)⟩
    · have HM : Hid ((okB s && (numB n && numB m)) = okB s) := Lib.hid (by rw [hn, hm, Bool.and_true, Bool.and_true])
      have HNN := Lib.hid hn
      go_wp2_with fail
      refine (isCountM_any n w4).mono ?_; rintro e w5' ⟨rfl, rfl⟩
      rw [hn]
      go_wp2_with fail
      refine (isCountM_any m w4).mono ?_; rintro e w5' ⟨rfl, rfl⟩
      rw [hm]
      go_wp2_with (refine wp_loadS (b := w.heap.size) (s := s) rfl rfl rfl HS.out.b0 ?_)
      cases hok : okB s
      · refine (changedM_no _ s x y z _ HI.out HH.out HT.out hok).mono ?_; rintro e w6 ⟨rfl, hb⟩
        have H6 := Lib.hid (HS.out.kept hb)
        clear hb
        go_wp2_with (refine wp_storeS (b := w.heap.size + 3) (A := zarr) rfl rfl rfl rfl rfl (sarr_one rfl rfl rfl) H6.out.bc rfl ?_; intro w7 h7)
        refine bodyPost_ret (ret2S (s := noS) (x := nilS) (y := nilS) (z := nilS) rfl rfl h7.box rfl) rfl ?_
        exact ⟨_, _, _, _, _, rfl, ans_no (HM.out.trans hok) (h7.below _ _ (Nat.le_of_lt H6.out.lt) H6.out.bel)⟩
      · refine (changedM_margins _ _ w.heap.size (w.heap.size + 3) s (marginsS s n m) x y z _ HI.out HH.out HT.out hok HLT.out.1 HLT.out.2 (HCL.out hok HNN.out)).mono ?_; rintro e w6 ⟨x6, y6, z6, rfl, ho, hb, hc⟩
        have HX : Hid (w6.heap[w.heap.size + 3]? = some zbx) := Lib.hid (hc.trans HS.out.bc)
        have HO := Lib.hid ho
        have HB6 := Lib.hid (HS.out.bel.trans hb)
        have HSZ := Lib.hid HS.out.bel.size
        clear ho hb hc
        go_wp2_with (refine wp_storeS (b := w.heap.size + 3) rfl rfl rfl rfl rfl HO.out.in_.one HX.out rfl ?_; intro w9 h9)
        refine bodyPost_ret (ret2S rfl rfl h9.box rfl) rfl ?_
        exact ⟨_, _, _, _, _, rfl, h9.below _ _ (Nat.le_of_lt HS.out.lt) HB6.out, Own.low (h9.own2 HX.out HO.out) HSZ.out, by rw [HM.out, hok]; rfl, fun _ => rfl, fun e => by rw [HM.out, hok] at e; cases e⟩
end Scr
end Go.Proofs.YtceaoadlhdgnmaaGreatDoor
end
