/- Joined texts: ScrBad, PrnFeed, PrnSmall, PrnLine, PrnPut, PrnShown. -/
import Derived.Test.YtceaoadlhdgnmaaGreatDoorMRestS
import Derived.Deep.CutRange
import Derived.BigQuiet
import Derived.Deep.DeepCutAuto
namespace Go.Proofs.YtceaoadlhdgnmaaGreatDoor
set_option maxRecDepth 100000
section
open Go.RowKit
namespace Scr
open Go.Proofs.YtceaoadlhdgnmaaGreatDoor.Row
end Scr
end
section
open Go.RowKit
namespace Scr
open Go.Proofs.YtceaoadlhdgnmaaGreatDoor.Row
set_option maxHeartbeats 3200000 in
theorem copied_any (s : S) (x y z : Value) (w : World) (h : In w s x y z) (hl : s.main.cells.length ≤ 1000000 ∧ s.other.cells.length ≤ 1000000 ∧ s.tabs.length ≤ 1000000) :
    Calls Tryz.prog 81 #[sv s x y z] w fun e w' => ∃ x' y' z', e = .returned (sv s x' y' z') ∧ Own w' w.heap.size s x' y' z' ∧ Apart x' y' ∧ Below w.heap.size w w' := by
  have HI := Lib.hid h
  have HL := Lib.hid hl
  have H0 := Lib.hid (Pc.start w s x y z)
  clear h hl
  go_enter Tryz.func81, Tryz.ntmps81
  go_wp2_with (refine wp_allocS1 (w := w) rfl rfl ?_)
  refine (Row.clone_any s.main.cells x _ (HI.out.kept H0.out.bel).m.cs HL.out.1).mono ?_; rintro e w1 ⟨v, rfl, ho, hb⟩
  obtain ⟨A2, n2, c2, rfl⟩ : ∃ A n c, v = .slice A n c := (by obtain ⟨A, c, e, _⟩ := ho.rm.2; exact ⟨A, _, c, e⟩)
  have H1 := Lib.hid (H0.out.kept hb)
  have HU := Lib.hid H0.out.up
  have H2 := Lib.hid (H1.out.putM (.slice A2 n2 c2))
  have HM := Lib.hid ((ho.low HU.out).set (show w.heap.size < w.heap.size + 2 by omega) 2 (.slice A2 n2 c2))
  have f1 : ∀ j, w1.frozen? ⟨w.heap.size, j, none⟩ = false := H1.out.b0.free
  have c1 : ∀ j, w1.cell? ⟨w.heap.size, j, none⟩ = (sarr s x y z)[j]? := H1.out.b0.cell
  clear ho hb H0 HU
  go_upto_region 2 with (fail)
  change Code.wp _ _ _ _ (w1.setCell ⟨w.heap.size, 2, none⟩ (.slice A2 n2 c2))
  clear f1 c1 H1
  generalize w1.setCell ⟨w.heap.size, 2, none⟩ (.slice A2 n2 c2) = w2 at H2 HM ⊢
  have c2' : ∀ j, w2.cell? ⟨w.heap.size, j, none⟩ = (sarr s (.slice A2 n2 c2) y z)[j]? := H2.out.b0.cell
  go_wp2_with fail
  refine (Row.clone_any s.other.cells y _ (HI.out.kept H2.out.bel).o.cs HL.out.2.1).mono ?_; rintro e w3 ⟨v, rfl, ho, hb⟩
  obtain ⟨A3, n3, c3, rfl⟩ : ∃ A n c, v = .slice A n c := (by obtain ⟨A, c, e, _⟩ := ho.rm.2; exact ⟨A, _, c, e⟩)
  have H3 := Lib.hid (H2.out.kept hb)
  have HU := Lib.hid H2.out.up
  have H4 := Lib.hid (H3.out.putO (.slice A3 n3 c3))
  have HAP : Hid (Apart (.slice A2 n2 c2) (.slice A3 n3 c3)) := Lib.hid (fun k e1 e2 => by have h1 := (HM.out.lt k e1).2; have h2 := (ho.lt k e2).1; omega)
  have HM4 := Lib.hid ((HM.out.kept hb).set (show w.heap.size < w.heap.size + 2 by omega) 5 (.slice A3 n3 c3))
  have HO4 := Lib.hid ((ho.low HU.out).set (show w.heap.size < w.heap.size + 2 by omega) 5 (.slice A3 n3 c3))
  have f3 : ∀ j, w3.frozen? ⟨w.heap.size, j, none⟩ = false := H3.out.b0.free
  have c3' : ∀ j, w3.cell? ⟨w.heap.size, j, none⟩ = (sarr s (.slice A2 n2 c2) y z)[j]? := H3.out.b0.cell
  clear ho hb H2 HU HM c2'
  go_upto_region 3 with (fail)
  change Code.wp _ _ _ _ (w3.setCell ⟨w.heap.size, 5, none⟩ (.slice A3 n3 c3))
  clear f3 c3' H3
  generalize w3.setCell ⟨w.heap.size, 5, none⟩ (.slice A3 n3 c3) = w4 at H4 HM4 HO4 ⊢
  have c4' : ∀ j, w4.cell? ⟨w.heap.size, j, none⟩ = (sarr s (.slice A2 n2 c2) (.slice A3 n3 c3) z)[j]? := H4.out.b0.cell
  go_wp2_with fail
  refine (Tab.clone_any s.tabs z _ (HI.out.kept H4.out.bel).t HL.out.2.2).mono ?_; rintro e w5 ⟨v, rfl, ho, hb⟩
  obtain ⟨A5, n5, c5, rfl⟩ : ∃ A n c, v = .slice A n c := (by obtain ⟨A, c, e, _⟩ := ho.bl.room; exact ⟨A, _, c, e⟩)
  have H5 := Lib.hid (H4.out.kept hb)
  have HU := Lib.hid H4.out.up
  have H6 := Lib.hid (H5.out.putT (.slice A5 n5 c5))
  have HO6 : Hid (Own (w5.setCell ⟨w.heap.size, 39, none⟩ (.slice A5 n5 c5)) (w.heap.size + 2) s (.slice A2 n2 c2) (.slice A3 n3 c3) (.slice A5 n5 c5)) := Lib.hid ⟨(HM4.out.kept hb).set (by omega) 39 _, (HO4.out.kept hb).set (by omega) 39 _, ownB_set (ho.low HU.out) (by omega) 39 _⟩
  have f5 : ∀ j, w5.frozen? ⟨w.heap.size, j, none⟩ = false := H5.out.b0.free
  have c5' : ∀ j, w5.cell? ⟨w.heap.size, j, none⟩ = (sarr s (.slice A2 n2 c2) (.slice A3 n3 c3) z)[j]? := H5.out.b0.cell
  clear ho hb H4 HU HM4 HO4 c4'
  go_upto_region 4 with (fail)
  change Code.wp _ _ _ _ (w5.setCell ⟨w.heap.size, 39, none⟩ (.slice A5 n5 c5))
  clear f5 c5' H5
  generalize w5.setCell ⟨w.heap.size, 39, none⟩ (.slice A5 n5 c5) = w6 at H6 HO6 ⊢
  go_wp2_with (first
    | (refine wp_loadS (b := w.heap.size) (s := s) rfl rfl rfl H6.out.b0 ?_)
    | (refine wp_storeS (b := w.heap.size + 1) rfl rfl rfl rfl rfl HO6.out.in_.one H6.out.b1 rfl ?_; intro w9 h9))
  refine bodyPost_ret (ret1S rfl rfl h9.box) rfl ?_
  exact ⟨_, _, _, rfl, Own.low (h9.own HO6.out (by omega)) (by omega), HAP.out, h9.below _ _ (by omega) H6.out.bel⟩
end Scr
end
section
open Go.RowKit
namespace Scr
open Go.Proofs.YtceaoadlhdgnmaaGreatDoor.Row Wid
@[go_sem] theorem is_none_none (v : Value) (w : World) : (Instr.typeAssert (.iface 88 v) 85 88 true).run Tryz.prog w = .ok (.tuple #[v, .bool true]) w := by kernel_rfl
@[go_sem] theorem is_none_mark (v : Value) (w : World) : (Instr.typeAssert (.iface 90 v) 85 88 true).run Tryz.prog w = .ok (.tuple #[.agg #[], .bool false]) w := by kernel_rfl
@[go_sem] theorem is_none_body (v : Value) (w : World) : (Instr.typeAssert (.iface 95 v) 85 88 true).run Tryz.prog w = .ok (.tuple #[.agg #[], .bool false]) w := by kernel_rfl
@[go_sem] theorem is_mark_mark (v : Value) (w : World) : (Instr.typeAssert (.iface 90 v) 85 90 true).run Tryz.prog w = .ok (.tuple #[v, .bool true]) w := by kernel_rfl
@[go_sem] theorem is_mark_body (v : Value) (w : World) : (Instr.typeAssert (.iface 95 v) 85 90 true).run Tryz.prog w = .ok (.tuple #[.int .i64 0, .bool false]) w := by kernel_rfl
@[go_sem] theorem must_body (v : Value) (w : World) : (Instr.typeAssert (.iface 95 v) 85 95 false).run Tryz.prog w = .ok v w := by kernel_rfl
abbrev bodyV (r : Int) (n : Nat) : Value := .agg #[.int .i64 r, .int .i64 n]
theorem look_body (r : Int) (n : Nat) (h : wid r = n) (hn : n = 1 ∨ n = 2) (w : World) : Calls Tryz.prog 80 #[.int .i64 r] w fun e w' => e = .returned (.iface 95 (bodyV r n)) ∧ Below w.heap.size w w' := by
  have HO := Lib.hid (Row.of_any r w)
  rw [h] at HO
  clear h
  go_enter Tryz.func80, Tryz.ntmps80
  go_wp2_with fail
  refine HO.out.mono ?_; rintro e w1 ⟨rfl, hb⟩
  have HB := Lib.hid hb
  clear hb HO
  rcases hn with rfl | rfl
  · go_wp2_with fail
    go_ret
    exact ⟨rfl, HB.out⟩
  · go_wp2_with fail
    go_ret
    exact ⟨rfl, HB.out⟩
theorem look_mark (r : Int) (h : wid r = 0) (w : World) : Calls Tryz.prog 80 #[.int .i64 r] w fun e w' => e = .returned (.iface 90 (.int .i64 r)) ∧ Below w.heap.size w w' := by
  have HO := Lib.hid (Row.of_any r w)
  rw [h] at HO
  clear h
  go_enter Tryz.func80, Tryz.ntmps80
  go_wp2_with fail
  refine HO.out.mono ?_; rintro e w1 ⟨rfl, hb⟩
  have HB := Lib.hid hb
  clear hb HO
  go_wp2_with fail
  go_ret
  exact ⟨rfl, HB.out⟩
theorem has_any (s : S) (x y z : Value) (b : Nat) (m : Int) (w : World) (h : SBox w b s x y z) : Calls Tryz.prog 127 #[.pointer (some ⟨b, 0, none⟩), .int .i64 m] w fun e w' => e = .returned (.bool (hasB s.modes m)) ∧ w' = w := by
  have c40 : w.cell? ⟨b, 40, none⟩ = some (.int .i64 s.modes) := h.cell 40
  clear h
  have HH : Hid (hasB s.modes m = !(bits .and .i64 s.modes m == 0)) := Lib.hid rfl
  go_enter Tryz.func127, Tryz.ntmps127
  go_wp2_with fail
  go_ret
  exact ⟨by rw [HH.out]; rfl, rfl⟩
end Scr
end
section
open Go.RowKit
namespace Scr
open Go.Proofs.YtceaoadlhdgnmaaGreatDoor.Row Wid
set_option maxHeartbeats 3200000 in
theorem line_any (s : S) (x y z : Value) (b base : Nat) (w : World) (h : Pn w b base s x y z) (hok : Ok s) :
    Calls Tryz.prog 125 #[.pointer (some ⟨b, 0, none⟩)] w fun e w' => ∃ g n cap c', seenX s x y = .slice (some ⟨g, 0, none⟩) n cap ∧ e = .returned (.slice (some ⟨g, lineAt s * 6, none⟩) (seenG s).cols.toNat c') ∧ Below w.heap.size w w' := by
  have F := Lib.hid hok.facts
  have L := Lib.hid hok.line
  have hX : OwnCs w base (seenX s x y) (seenG s).cells := by
    unfold seenX seenG; cases s.swapped
    · exact h.own.m
    · exact h.own.o
  have HS := Lib.hid (seat_arr s x y z)
  rcases hX.shape with ⟨_, e⟩ | ⟨g, cap, e, _, hcap⟩
  · have h1 := L.out.fit; have h2 := L.out.c1; rw [e] at h1; simp at h1; omega
  rw [e] at HS ⊢
  have HPS := Lib.hid (penSeen s x y z b w h.box)
  obtain ⟨p, hp⟩ : ∃ p, seatO s = p := ⟨_, rfl⟩
  rw [hp] at HS HPS
  have p1 : w.cell? ⟨b, p + 1, none⟩ = some (.int .i64 s.main.cols) := by rw [h.box.cell, ← F.out.gc]; exact HS.out.2.1
  have p2 : w.cell? ⟨b, p + 2, none⟩ = some (.slice (some ⟨g, 0, none⟩) (seenG s).cells.length cap) := by rw [h.box.cell]; exact HS.out.2.2
  have q7 : w.cell? ⟨b, 7, none⟩ = some (.int .i64 s.cur.row) := h.box.cell 7
  obtain ⟨C, hC⟩ : ∃ C, (seenG s).cols.toNat = C := ⟨_, rfl⟩
  obtain ⟨k, hk⟩ : ∃ k, lineAt s = k := ⟨_, rfl⟩
  obtain ⟨n, hn⟩ : ∃ n, (seenG s).cells.length = n := ⟨_, rfl⟩
  have hfit := L.out.fit
  have hcI := L.out.cI
  have hat := L.out.at_
  have hc1 := L.out.c1
  have h40 := L.out.a40
  have hC40 := L.out.c40
  rw [hC] at hfit hcI hc1 hC40 ⊢
  rw [hk] at hfit hat h40 ⊢
  rw [hn] at hfit hcap p2 ⊢
  have hw1 : IntKind.i64.wrap (s.cur.row * s.main.cols) = (k : Int) := by rw [IntKind.wrap_i64, ← hat]; omega
  have hw2 : IntKind.i64.wrap ((k : Int) + s.main.cols) = ((k + C : Nat) : Int) := by rw [IntKind.wrap_i64, ← hcI]; omega
  have hu : Tryz.prog.underlying 27 = some (.slice (Tryz.prog.elem 27)) := by kernel_rfl
  have hsl : ∀ w' : World, (Instr.slice 27 (.slice (some ⟨g, 0, none⟩) n cap) (some (.int .i64 (k : Int))) (some (.int .i64 ((k + C : Nat) : Int))) none).run Tryz.prog w' = .ok (.slice (some ⟨g, k * 6, none⟩) C (cap - k)) w' := fun w' => by
    rw [run_slice_lh w' 27 (some ⟨g, 0, none⟩) n cap hu .i64 .i64 (k : Int) ((k + C : Nat) : Int) (by omega) (by omega) (by omega)]
    have hs : (sizeOf (Tryz.prog.elem 27)).run Tryz.prog w' = .ok 6 w' := by kernel_rfl
    rw [hs]
    have hne : ¬ cap = k := by omega
    simp [Result.andThen, sliced, hne, Addr.add]
    exact ⟨fun h => h.symm, by omega⟩
  clear hn hk hC hp hfit hat hc1 h40 hC40 hcI hcap e hX h hok
  obtain ⟨hi, hhi⟩ : ∃ hi : Int, ((k + C : Nat) : Int) = hi := ⟨_, rfl⟩
  rw [hhi] at hw2 hsl
  obtain ⟨lo, hlo⟩ : ∃ lo : Int, (k : Int) = lo := ⟨_, rfl⟩
  rw [hlo] at hw1 hw2 hsl
  clear hhi hlo hu
  go_enter Tryz.func125, Tryz.ntmps125
  go_wp2_with fail
  refine HPS.out.mono ?_; rintro e w1 ⟨rfl, rfl⟩
  go_upto_region 2 with (fail)
  go_quiet (fail)
  go_upto_region 3 with (fail)
  go_quiet (fail)
  go_wp2_with fail
  go_ret
  exact ⟨g, n, cap, cap - k, rfl, rfl, (by first | exact bel_drewN _ _ | exact (bel_drewN _ _).trans (bel_drewN _ _) | exact (bel_drewN _ _).drew | exact ⟨rfl, rfl, rfl, Nat.le_refl _, fun _ _ => rfl⟩)⟩
end Scr
end
section
open Go.RowKit
namespace Scr
open Go.Proofs.YtceaoadlhdgnmaaGreatDoor.Row Wid
theorem penSet (k : Cur) (w : World) : Calls Tryz.prog 196 #[curV k] w fun e w' => e = .returned (.int .i64 (setOf k)) ∧ Below w.heap.size w w' := by
  have HB := Lib.hid (bel_alloc w (.cells #[.int .i64 k.row, .int .i64 k.col, .bool k.wrap, .int .i64 k.a.fg, .int .i64 k.a.bg, .int .i64 k.a.flags, .int .i64 k.g0, .int .i64 k.g1, .int .i64 k.shift, .bool k.origin] 33))
  by_cases h : k.shift = 0
  · have HE : Hid (setOf k = k.g0) := Lib.hid (by unfold setOf; rw [if_pos h])
    rw [HE.out]
    go_enter Tryz.func196, Tryz.ntmps196
    go_wp2_with fail
    go_ret
    exact ⟨rfl, bel_alloc w _⟩
  · have HE : Hid (setOf k = k.g1) := Lib.hid (by unfold setOf; rw [if_neg h])
    rw [HE.out]
    go_enter Tryz.func196, Tryz.ntmps196
    go_wp2_with fail
    go_ret
    exact ⟨rfl, bel_alloc w _⟩
theorem shown_plain (k : Cur) (r : Int) (hs : setOf k ≠ 1) (w : World) : Calls Tryz.prog 170 #[curV k, .int .i64 r] w fun e w' => e = .returned (.int .i64 r) ∧ Below w.heap.size w w' := by
  have HB := Lib.hid (bel_alloc w (.cells #[.int .i64 k.row, .int .i64 k.col, .bool k.wrap, .int .i64 k.a.fg, .int .i64 k.a.bg, .int .i64 k.a.flags, .int .i64 k.g0, .int .i64 k.g1, .int .i64 k.shift, .bool k.origin] 33))
  have HS := Lib.hid (fun W => penSet k W)
  obtain ⟨q, hq⟩ : ∃ q, setOf k = q := ⟨_, rfl⟩
  rw [hq] at HS hs
  clear hq
  go_enter Tryz.func170, Tryz.ntmps170
  go_wp2_with fail
  refine (HS.out _).mono ?_; rintro e w1 ⟨rfl, hb⟩
  have HB1 := Lib.hid (HB.out.trans (hb.mono HB.out.size))
  clear hb HS HB
  go_wp2_with fail
  go_ret
  exact ⟨rfl, HB1.out⟩
theorem line_at (s : S) (x y z : Value) (b base g n cap : Nat) (w : World) (hX : seenX s x y = .slice (some ⟨g, 0, none⟩) n cap) (h : Pn w b base s x y z) (hok : Ok s) :
    Calls Tryz.prog 125 #[.pointer (some ⟨b, 0, none⟩)] w fun e w' => ∃ c', e = .returned (.slice (some ⟨g, lineAt s * 6, none⟩) (seenG s).cols.toNat c') ∧ Below w.heap.size w w' :=
  (line_any s x y z b base w h hok).mono fun _ _ ⟨g', n', cap', c', e1, e2, hb⟩ => by
    rw [hX] at e1
    injection e1 with e1
    injection e1 with e1
    injection e1 with e1
    subst e1
    exact ⟨c', e2, hb⟩
abbrev kbox (k : Cur) : Obj := .cells #[.int .i64 k.row, .int .i64 k.col, .bool k.wrap, .int .i64 k.a.fg, .int .i64 k.a.bg, .int .i64 k.a.flags, .int .i64 k.g0, .int .i64 k.g1, .int .i64 k.shift, .bool k.origin] 33 (0, 0)
abbrev bbox (r : Int) (n : Nat) : Obj := .cells #[.int .i64 r, .int .i64 n] 95 (0, 0)
theorem cbox0_cells {w : World} {b : Nat} (h : w.heap[b]? = some cbox0) : (∀ j, w.frozen? ⟨b, j, none⟩ = false) ∧ w.cell? ⟨b, 0, none⟩ = some (.int .i64 0) ∧ w.cell? ⟨b, 1, none⟩ = some (.int .i64 0) ∧ w.cell? ⟨b, 2, none⟩ = some (.bool false) ∧ w.cell? ⟨b, 3, none⟩ = some (.int .i64 0) ∧ w.cell? ⟨b, 4, none⟩ = some (.int .i64 0) ∧
    w.cell? ⟨b, 5, none⟩ = some (.int .i64 0) ∧ w.cell? ⟨b, 6, none⟩ = some (.int .i64 0) ∧ w.cell? ⟨b, 7, none⟩ = some (.int .i64 0) ∧ w.cell? ⟨b, 8, none⟩ = some (.int .i64 0) ∧ w.cell? ⟨b, 9, none⟩ = some (.bool false) :=
  ⟨Blk.free h, Blk.cell h 0, Blk.cell h 1, Blk.cell h 2, Blk.cell h 3, Blk.cell h 4, Blk.cell h 5, Blk.cell h 6, Blk.cell h 7, Blk.cell h 8, Blk.cell h 9⟩
set_option maxHeartbeats 6400000 in
theorem put_plain (s : S) (x y z : Value) (b base g n0 cap : Nat) (r : Int) (n : Nat) (w : World) (h : Pn w b base s x y z) (hap : Apart x y) (hok : Ok s) (hX : seenX s x y = .slice (some ⟨g, 0, none⟩) n0 cap)
    (hins : hasB s.modes 2 = false) (hset : setOf s.cur ≠ 1) (hr : wid r = n) (hn : 1 ≤ n) (hf : s.cur.col + n ≤ s.main.cols) :
    Calls Tryz.prog 129 #[.pointer (some ⟨b, 0, none⟩), bodyV r n] w fun e w' => e = .returned (.tuple #[]) ∧ Pn w' b base (withLine s (mid (lineS s) s.cur.col.toNat (s.cur.col.toNat + n) (cellsOf r s.cur.a))) x y z ∧ Only g w w' ∧ Below base w w' := by
  have F := Lib.hid hok.facts
  have L := Lib.hid hok.line
  have HOK := Lib.hid hok
  have HAP := Lib.hid hap
  have H1 := Lib.hid (h.kept (bel_alloc w (bbox r n)))
  have HB1 : Hid ((w.alloc (bbox r n)).heap[w.heap.size]? = some (bbox r n)) := Lib.hid (heap_alloc_new _ _)
  have HO1 := Lib.hid (bel_alloc w (bbox r n))
  have HLN := Lib.hid (fun W (k : Pn W b base s x y z) => line_at s x y z b base g n0 cap W hX k hok)
  have HXX := Lib.hid hX
  have HUP := Lib.hid h.up
  clear h hap hok hX
  go_enter Tryz.func129, Tryz.ntmps129
  go_upto_region 1 with (fail)
  change Code.wp _ _ _ _ (w.alloc (bbox r n))
  generalize w.alloc (bbox r n) = w1 at H1 HB1 HO1 ⊢
  have HQ : Hid (∀ W, Below w1.heap.size w1 W → (W.cell? ⟨b, 7, none⟩ = some (.int .i64 s.cur.row) ∧ W.cell? ⟨b, 8, none⟩ = some (.int .i64 s.cur.col) ∧ W.cell? ⟨b, 9, none⟩ = some (.bool s.cur.wrap) ∧ W.cell? ⟨b, 10, none⟩ = some (.int .i64 s.cur.a.fg) ∧ W.cell? ⟨b, 11, none⟩ = some (.int .i64 s.cur.a.bg) ∧ W.cell? ⟨b, 12, none⟩ = some (.int .i64 s.cur.a.flags) ∧
      W.cell? ⟨b, 13, none⟩ = some (.int .i64 s.cur.g0) ∧ W.cell? ⟨b, 14, none⟩ = some (.int .i64 s.cur.g1) ∧ W.cell? ⟨b, 15, none⟩ = some (.int .i64 s.cur.shift) ∧ W.cell? ⟨b, 16, none⟩ = some (.bool s.cur.origin))) := Lib.hid fun W hb =>
    have k := (H1.out.kept hb).box
    ⟨k.cell 7, k.cell 8, k.cell 9, k.cell 10, k.cell 11, k.cell 12, k.cell 13, k.cell 14, k.cell 15, k.cell 16⟩
  go_cut [4, 5] from 6 to 11 (fun s4 s5 wx => ∃ b4 c', s4 = .pointer (some ⟨b4, 0, none⟩) ∧ s5 = .slice (some ⟨g, lineAt s * 6, none⟩) (seenG s).cols.toNat c' ∧ Hid (wx.heap[b4]? = some (kbox s.cur)) ∧ Hid (Below w1.heap.size w1 wx))
  case first =>
    have q1 := HQ.out w1.drew (Below.refl _ _).drew
    have HBA := Lib.hid (dal w1 cbox0)
    have HBB : Hid (∀ w2, Below (w1.alloc cbox0).drew.heap.size (w1.alloc cbox0).drew w2 → Below w1.heap.size w1 w2 ∧ w2.heap[w1.heap.size]? = some cbox0) := Lib.hid fun w2 hb => by
      have hs : w1.heap.size ≤ (w1.alloc cbox0).drew.heap.size := by show w1.heap.size ≤ (w1.alloc cbox0).heap.size; simp
      exact ⟨HBA.out.trans (hb.mono hs), Blk.kept (w := (w1.alloc cbox0).drew) (heap_alloc_new w1 cbox0) hb⟩
    have q2 := HQ.out ((w1.alloc cbox0).drew) HBA.out
    go_region_held3 (fun w' => w'.cell? ⟨b, 7, none⟩ = some (.int .i64 s.cur.row) ∧ w'.cell? ⟨b, 8, none⟩ = some (.int .i64 s.cur.col) ∧ w'.cell? ⟨b, 9, none⟩ = some (.bool s.cur.wrap) ∧ w'.cell? ⟨b, 10, none⟩ = some (.int .i64 s.cur.a.fg) ∧ w'.cell? ⟨b, 11, none⟩ = some (.int .i64 s.cur.a.bg) ∧ w'.cell? ⟨b, 12, none⟩ = some (.int .i64 s.cur.a.flags) ∧ w'.cell? ⟨b, 13, none⟩ = some (.int .i64 s.cur.g0) ∧ w'.cell? ⟨b, 14, none⟩ = some (.int .i64 s.cur.g1) ∧ w'.cell? ⟨b, 15, none⟩ = some (.int .i64 s.cur.shift) ∧ w'.cell? ⟨b, 16, none⟩ = some (.bool s.cur.origin)) (first | (with_reducible exact q6) | (with_reducible exact q5) | (with_reducible exact q4) | (with_reducible exact q3) | (with_reducible exact q2) | (with_reducible exact q1))
      ((first
        | (go_at_call 125; refine (HLN.out ((w1.alloc cbox0).drew) (H1.out.kept HBA.out)).mono ?_; rintro e w2 ⟨c', rfl, hb⟩; have HB2 := Lib.hid (HBB.out w2 hb).1; have HZ2 := Lib.hid (HBB.out w2 hb).2; have q3 := HQ.out w2 HB2.out; have q4 := HQ.out (kall w2 w1.heap.size s.cur) (kall_below HB2.out (Nat.le_refl _) s.cur); unfold kall at q4; obtain ⟨zf, z0, z1, z2, z3, z4, z5, z6, z7, z8, z9⟩ := cbox0_cells HZ2.out; have HE : Hid ((kall w2 w1.heap.size s.cur).heap[w1.heap.size]? = some (kbox s.cur) ∧ Below w1.heap.size w1 (kall w2 w1.heap.size s.cur)) := Lib.hid ⟨kall_box HZ2.out s.cur, kall_below HB2.out (Nat.le_refl _) s.cur⟩; clear hb)
        | (go_at_call 125; refine (HLN.out w1.drew (H1.out.kept (Below.refl _ _).drew)).mono ?_; rintro e w2 ⟨c', rfl, hb⟩; have HB2 : Hid (Below w1.heap.size w1 w2) := Lib.hid ((Below.refl _ _).drew.trans hb); have q3 := HQ.out w2 HB2.out; have q5 := HQ.out (w2.alloc cbox0) (HB2.out.trans ((bel_alloc w2 _).mono HB2.out.size)); have q6 := HQ.out (w2.alloc (kbox s.cur)) (HB2.out.trans ((bel_alloc w2 _).mono HB2.out.size)); have HE : Hid ((w2.alloc (kbox s.cur)).heap[w2.heap.size]? = some (kbox s.cur) ∧ Below w1.heap.size w1 (w2.alloc (kbox s.cur))) := Lib.hid ⟨heap_alloc_new _ _, HB2.out.trans ((bel_alloc w2 _).mono HB2.out.size)⟩; clear hb)))
    all_goals
      go_wp2_with fail
      go_meet
      exact ⟨_, _, rfl, rfl, Lib.hid HE.out.1, Lib.hid HE.out.2⟩
  case rest =>
    obtain ⟨b4, c', rfl, rfl, HK, HB2⟩ := hcut
    rename World => w2
    have H2 := Lib.hid (H1.out.kept HB2.out)
    have HD2 := Lib.hid (Blk.kept HB1.out HB2.out)
    have HA2 := Lib.hid (HO1.out.trans (HB2.out.mono HO1.out.size))
    clear HQ H1 HB1 HO1 HB2
    go_wp2_with fail
    refine (has_any s x y z b 2 w2 H2.out.box).mono ?_; rintro e w2' ⟨rfl, hw⟩
    have hw := hw.symm
    subst hw
    rw [hins]
    go_upto_region 4 with (fail)
    have HQ : Hid (∀ W, Below w2.heap.size w2 W → (W.cell? ⟨b4, 0, none⟩ = some (.int .i64 s.cur.row) ∧ W.cell? ⟨b4, 1, none⟩ = some (.int .i64 s.cur.col) ∧ W.cell? ⟨b4, 2, none⟩ = some (.bool s.cur.wrap) ∧ W.cell? ⟨b4, 3, none⟩ = some (.int .i64 s.cur.a.fg) ∧ W.cell? ⟨b4, 4, none⟩ = some (.int .i64 s.cur.a.bg) ∧ W.cell? ⟨b4, 5, none⟩ = some (.int .i64 s.cur.a.flags) ∧ W.cell? ⟨b4, 6, none⟩ = some (.int .i64 s.cur.g0) ∧ W.cell? ⟨b4, 7, none⟩ = some (.int .i64 s.cur.g1) ∧ W.cell? ⟨b4, 8, none⟩ = some (.int .i64 s.cur.shift) ∧ W.cell? ⟨b4, 9, none⟩ = some (.bool s.cur.origin) ∧ W.cell? ⟨w.heap.size, 0, none⟩ = some (.int .i64 r) ∧ W.cell? ⟨w.heap.size, 1, none⟩ = some (.int .i64 n))) := Lib.hid fun W hb =>
      have k := Blk.kept HK.out hb
      have d := Blk.kept HD2.out hb
      ⟨Blk.cell k 0, Blk.cell k 1, Blk.cell k 2, Blk.cell k 3, Blk.cell k 4, Blk.cell k 5, Blk.cell k 6, Blk.cell k 7, Blk.cell k 8, Blk.cell k 9, Blk.cell d 0, Blk.cell d 1⟩
    have q2 := HQ.out w2.drew (Below.refl _ _).drew
    have hcol : (s.cur.col.toNat : Int) = s.cur.col := by have := F.out.col0; omega
    have hfn : s.cur.col.toNat + n ≤ (lineS s).length := by rw [L.out.len]; have := L.out.cI; omega
    have hml : (mid (lineS s) s.cur.col.toNat (s.cur.col.toNat + n) (cellsOf r s.cur.a)).length = (seenG s).cols.toNat := by
      have h12 : wid r = 1 ∨ wid r = 2 := by rcases wid_cases r with e | e | e | e <;> omega
      have hcl := cells_length (a := s.cur.a) h12
      have := mid_length (show s.cur.col.toNat ≤ s.cur.col.toNat + n by omega) hfn (cellsOf r s.cur.a)
      rw [L.out.len] at this
      omega
    have HSH := Lib.hid (fun W => shown_plain s.cur r hset W)
    have HPT : Hid (∀ W, Pn W b base s x y z → _) := Lib.hid fun W k => put_fits (lineS s) s.cur.a s.cur.col.toNat n r (.slice (some ⟨g, lineAt s * 6, none⟩) (seenG s).cols.toNat c') W (k.line HXX.out L.out c') L.out.held (by rw [L.out.len]; have := L.out.c40; omega) L.out.ok F.out.a hr hn hfn
    rw [hcol] at HPT
    have HML := Lib.hid hml
    clear hml hfn hcol hset hr hins
    obtain ⟨m, hm⟩ : ∃ m, mid (lineS s) s.cur.col.toNat (s.cur.col.toNat + n) (cellsOf r s.cur.a) = m := ⟨_, rfl⟩
    have HMM := Lib.hid hm
    rw [hm] at HPT HML
    clear hm
    go_region_held3 (fun w' => w'.cell? ⟨b4, 0, none⟩ = some (.int .i64 s.cur.row) ∧ w'.cell? ⟨b4, 1, none⟩ = some (.int .i64 s.cur.col) ∧ w'.cell? ⟨b4, 2, none⟩ = some (.bool s.cur.wrap) ∧ w'.cell? ⟨b4, 3, none⟩ = some (.int .i64 s.cur.a.fg) ∧ w'.cell? ⟨b4, 4, none⟩ = some (.int .i64 s.cur.a.bg) ∧ w'.cell? ⟨b4, 5, none⟩ = some (.int .i64 s.cur.a.flags) ∧ w'.cell? ⟨b4, 6, none⟩ = some (.int .i64 s.cur.g0) ∧ w'.cell? ⟨b4, 7, none⟩ = some (.int .i64 s.cur.g1) ∧ w'.cell? ⟨b4, 8, none⟩ = some (.int .i64 s.cur.shift) ∧ w'.cell? ⟨b4, 9, none⟩ = some (.bool s.cur.origin) ∧ w'.cell? ⟨w.heap.size, 0, none⟩ = some (.int .i64 r) ∧ w'.cell? ⟨w.heap.size, 1, none⟩ = some (.int .i64 n)) (first | (with_reducible exact q4) | (with_reducible exact q3) | (with_reducible exact q2))
      ((first
        | (have h3 := H3.out; go_at_call 169; refine (HPT.out w3 h3).mono ?_; rintro e w4 ⟨v, rfl, ho, hb⟩; have H4 := Lib.hid (h3.kept hb); have HO4 := Lib.hid ho; have HB4 := Lib.hid (HB3.out.trans (hb.mono HB3.out.size)); have q4 := HQ.out w4 HB4.out; clear ho hb)
        | (go_at_call 170; refine (HSH.out w2.drew).mono ?_; rintro e w3 ⟨rfl, hb⟩; have HB3 : Hid (Below w2.heap.size w2 w3) := Lib.hid ((Below.refl _ _).drew.trans hb); have H3 := Lib.hid (H2.out.kept HB3.out); have q3 := HQ.out w3 HB3.out; clear hb)))
    all_goals
      have HA4 := Lib.hid (HA2.out.trans (HB4.out.mono HA2.out.size))
      go_wp2_with fail
      refine (HLN.out w4 H4.out).mono ?_; rintro e w5 ⟨c2, rfl, hb⟩
      have H5 := Lib.hid (H4.out.kept hb)
      have HO5 := Lib.hid (HO4.out.kept hb)
      have HA5 := Lib.hid (HA4.out.trans (hb.mono HA4.out.size))
      clear hb H2 H3 H4 HO4 HA4 HA2 HB3 HB4 q2 q3 q4
      have hC1 := L.out.c1
      rcases HO5.out.shape with ⟨_, e0⟩ | ⟨g2, cap2, e0, _, _⟩
      · have := HML.out; rw [e0] at this; simp at this; omega
      rw [HML.out] at e0
      subst e0
      have HSR := Lib.hid (HO5.out.cs.flat.2)
      obtain ⟨w6, hrun, ho6, hon6, hb6⟩ := run_copy_into (ty := 3) (k := lineAt s) (dCap := c2) (sCap := cap2) (H5.out.cells HXX.out) HML.out L.out.fit HSR.out
      have H6 := Lib.hid (H5.out.over HAP.out HXX.out ho6 hon6 hon6.1)
      have HN6 := Lib.hid (Only.trans ⟨HA5.out.size, fun g o _ e => Blk.kept e HA5.out⟩ hon6)
      have HB6 := Lib.hid (hb6 base w (HA5.out.mono HUP.out) ((H5.out.cells HXX.out).lt g rfl).1)
      clear ho6 hon6 hb6 H5 HO5 HA5 HSR HML HLN
      go_wp2_with fail
      go_end0
      rw [HMM.out]
      exact ⟨rfl, H6.out, HN6.out, HB6.out⟩
end Scr
end
section
open Go.RowKit
namespace Scr
open Go.Proofs.YtceaoadlhdgnmaaGreatDoor.Row Wid
def drawnB : ByteArray := ⟨#[226, 151, 134, 226, 150, 146, 226, 144, 137, 226, 144, 140, 226, 144, 141, 226, 144, 138, 194, 176, 194, 177, 226, 144, 164, 226, 144, 139, 226, 148, 152, 226, 148, 144, 226, 148, 140, 226, 148, 148, 226, 148, 188, 226, 142, 186, 226, 142, 187, 226, 148, 128, 226, 142, 188, 226, 142, 189, 226, 148, 156, 226, 148, 164, 226, 148, 180, 226, 148, 172, 226, 148, 130, 226, 137, 164, 226, 137, 165, 207, 128, 226, 137, 160, 194, 163, 194, 183]⟩
def posL : List Nat := [0, 3, 6, 9, 12, 15, 18, 20, 22, 25, 28, 31, 34, 37, 40, 43, 46, 49, 52, 55, 58, 61, 64, 67, 70, 73, 76, 79, 81, 84, 86, 88]
theorem drawn_step : ∀ j : Fin 31, Utf.dec (drawnB.data.toList.drop (posL.getD j.val 0)) = (drawnL.getD j.val 0, posL.getD (j.val + 1) 0 - posL.getD j.val 0) ∧ posL.getD j.val 0 < posL.getD (j.val + 1) 0 ∧ posL.getD j.val 0 < 88 := of_decide_eq_true (by kernel_rfl)
theorem drawn_size : drawnB.size = 88 := by kernel_rfl
theorem drawn_at {j : Nat} (hj : j < 31) : Utf.dec (drawnB.data.toList.drop (posL.getD j 0)) = (drawnL.getD j 0, posL.getD (j + 1) 0 - posL.getD j 0) ∧ posL.getD j 0 < posL.getD (j + 1) 0 ∧ posL.getD j 0 < 88 := drawn_step ⟨j, hj⟩
set_option maxHeartbeats 800000 in
theorem shown_lines (k : Cur) (r : Int) (hs : setOf k = 1) (w : World) : Calls Tryz.prog 170 #[curV k, .int .i64 r] w fun e w' => e = .returned (.int .i64 (drawnAt r)) ∧ Below w.heap.size w w' := by
  have HB := Lib.hid (bel_alloc w (.cells #[.int .i64 k.row, .int .i64 k.col, .bool k.wrap, .int .i64 k.a.fg, .int .i64 k.a.bg, .int .i64 k.a.flags, .int .i64 k.g0, .int .i64 k.g1, .int .i64 k.shift, .bool k.origin] 33))
  have HS := Lib.hid (fun W => penSet k W)
  rw [hs] at HS
  go_enter Tryz.func170, Tryz.ntmps170
  go_wp2_with fail
  refine (HS.out _).mono ?_; rintro e w1 ⟨rfl, hb⟩
  have HB1 := Lib.hid (HB.out.trans (hb.mono HB.out.size))
  clear hb HS HB
  go_wp2_with fail
  go_loopw [5] (fun t wr => ∃ (j : Nat) (a : Int), j ≤ 31 ∧ t = .int .i64 a ∧ a = 96 + (j : Int) ∧ Hid (r < 96 ∨ 96 + (j : Int) ≤ r) ∧ Hid (wr.heap[w1.heap.size]? = some (.stringIter drawnB (posL.getD j 0))) ∧ Below w1.heap.size w1 wr) (fun _ wr => 88 - wr.iterPos w1.heap.size)
  case atStart => exact ⟨0, 96, by omega, rfl, by omega, Lib.hid (by omega), Lib.hid (World.iter_heap _ _ _), Utf.below_iter (Below.refl _ _) (Nat.le_refl _) _ _⟩
  case round =>
    obtain ⟨j, a, hj, rfl, ha, HR, HI, hbl⟩ := hrel
    have HIP : Hid (wr.iterPos w1.heap.size = posL.getD j 0) := Lib.hid (by simp [World.iterPos, HI.out])
    by_cases hp : j < 31
    · obtain ⟨hd, hlt, h88⟩ := drawn_at hp
      have hnx : ∀ ty, (Instr.next (.pointer (some ⟨w1.heap.size, 0, none⟩)) true ty).run Tryz.prog wr = _ := fun ty => Lib.run_next_any_at wr w1.heap.size drawnB (posL.getD j 0) ty HI.out (by rw [drawn_size]; exact h88)
      rw [Utf.dec_at] at hnx
      have hsm := Utf.dec_small (drawnB.data.toList.drop (posL.getD j 0))
      rw [hd] at hnx hsm
      simp only at hnx hsm
      have HY := Lib.hid (fun h => drawn_yes (r := r) hp h)
      have HPN : Hid (posL.getD j 0 + (posL.getD (j + 1) 0 - posL.getD j 0) = posL.getD (j + 1) 0) := Lib.hid (by omega)
      rw [HPN.out] at hnx
      have HLT := Lib.hid hlt
      have H88 := Lib.hid h88
      clear hd hlt h88
      obtain ⟨p2, hp2⟩ : ∃ q, posL.getD (j + 1) 0 = q := ⟨_, rfl⟩
      rw [hp2] at hnx HPN HLT
      have HP2 := Lib.hid hp2
      clear hp2
      generalize posL.getD j 0 = p1 at hnx HPN HLT H88 HI HIP
      generalize drawnL.getD j 0 = x at hnx hsm HY
      have hit2 := Lib.iterAt_heap wr w1.heap.size drawnB p1 p2 HI.out
      have HIT2 := Lib.hid hit2
      have HIP2 : Hid ((wr.iterAt w1.heap.size drawnB p2).iterPos w1.heap.size = p2) := Lib.hid (by simp [World.iterPos, hit2])
      have HBL2 : Hid (Below w1.heap.size w1 (wr.iterAt w1.heap.size drawnB p2)) := Lib.hid (Lib.below_iterAt hbl (Nat.le_refl _) _ _)
      clear hit2 hbl
      by_cases he : a = r
      · have HE := Lib.hid (HY.out (by omega))
        clear HY HR
        go_wp2_with fail
        go_ret
        exact ⟨by rw [HE.out]; rfl, HB1.out.trans (HBL2.out.mono HB1.out.size)⟩
      · go_wp2_with fail
        go_roundw
        case rel => exact ⟨j + 1, a + 1, by omega, by go_num, by omega, Lib.hid (by have := HR.out; omega), Lib.hid (by rw [HP2.out]; exact HIT2.out), HBL2.out⟩
        case measure => rw [HIP2.out, HIP.out]; have := HLT.out; have := H88.out; omega
    · have hnx : ∀ ty, (Instr.next (.pointer (some ⟨w1.heap.size, 0, none⟩)) true ty).run Tryz.prog wr = _ := fun ty => Lib.run_next_end_at wr w1.heap.size drawnB (posL.getD j 0) ty HI.out (by rw [show j = 31 by omega, drawn_size]; decide)
      have HE := Lib.hid (drawn_no (r := r) (by have := HR.out; omega))
      go_wp2_with fail
      go_ret
      exact ⟨by rw [HE.out]; rfl, HB1.out.trans (hbl.mono HB1.out.size)⟩
end Scr
end
end Go.Proofs.YtceaoadlhdgnmaaGreatDoor
