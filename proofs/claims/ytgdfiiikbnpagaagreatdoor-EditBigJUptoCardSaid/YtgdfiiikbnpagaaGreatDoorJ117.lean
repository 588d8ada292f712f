/- Joined texts: EdRefC. -/
import Derived.Test.YtgdfiiikbnpagaaGreatDoorJ112
import Derived.Deep.RegionLaw
import Derived.Deep.RegionHeld3
import Derived.Deep.CutRange
import Derived.Deep.DeepCutAuto
import Derived.BigRegion
import Derived.BigQuiet
section
/- The page's Edit: J and K, row by row. -/
namespace Go.Proofs.YtgdfiiikbnpagaaGreatDoor
set_option maxRecDepth 100000
open Go.RowKit
namespace Scr
open Go.Proofs.YtgdfiiikbnpagaaGreatDoor.Row Wid

set_option maxHeartbeats 6400000 in
theorem refEd_wipe (s : S) (x y z : Value) (key n : Int) (w : World) (h : In w s x y z) (hok : Ok s) (lo hi m fr to_ : Int) (hsp : Span s lo hi m fr to_) (hk : key = 74 ∨ key = 75) (hmax : max 0 n = m) (hm3 : m = 0 ∨ m = 1 ∨ m = 2) (hfr : fr = if key = 74 ∧ m ≠ 0 then 0 else s.cur.row) (hto : to_ = if key = 74 ∧ m ≠ 1 then s.main.rows - 1 else s.cur.row) :
    Calls Tryz.prog 28 #[sv s x y z, .int .i64 key, .int .i64 n] w fun e w' => ∃ x' y' z', e = .returned (sv (putG (noWrap s) (wipeN lo hi s.cur.a s.main.rows.toNat (seenG s))) x' y' z') ∧ Own w' w.heap.size (putG (noWrap s) (wipeN lo hi s.cur.a s.main.rows.toNat (seenG s))) x' y' z' ∧ Below w.heap.size w w' := by
  have HI := Lib.hid h
  have HF := Lib.hid hok.facts
  have H0 := Lib.hid (Rz.start w s x y z)
  have HL := Lib.hid hok.lens
  have HOK := Lib.hid hok
  have HSP := Lib.hid hsp
  have HKK := Lib.hid hk
  have HM3 := Lib.hid hm3
  have HFR := Lib.hid hfr
  have HTO := Lib.hid hto
  have e83 : (key == 83) = false := by rw [beq_eq_false_iff_ne]; omega
  have e84 : (key == 84) = false := by rw [beq_eq_false_iff_ne]; omega
  have n83 : (key != 83) = true := by rw [bne_iff_ne]; omega
  have n84 : (key != 84) = true := by rw [bne_iff_ne]; omega
  have hm2 : decide (2 < m) = false := decide_eq_false (by omega)
  have hwR : IntKind.i64.wrap (s.main.rows - 1) = s.main.rows - 1 := by have := HF.out.r1; have := HF.out.r40; rw [IntKind.wrap_i64]; omega
  clear h hok hsp hk hm3 hfr hto
  go_enter Tryz.func28, Tryz.ntmps28
  go_wp2_with (first
    | (refine wp_allocS1 (w := w) rfl rfl ?_)
    | (refine wp_loadS (b := w.heap.size) (s := s) rfl rfl rfl H0.out.b0 ?_))
  refine (copyScreen_any s x y z _ (HI.out.kept H0.out.bel) HL.out).mono ?_; rintro e w1 ⟨x1, y1, z1, rfl, ho, hb⟩
  have H1 := Lib.hid (H0.out.kept hb)
  have HO1 := Lib.hid (ho.low H0.out.up)
  clear ho hb H0 HI
  go_wp2_with (refine wp_storeS_then (b := w.heap.size) (A := sarr s x1 y1 z1) (T := Pb w s x1 y1 z1) rfl rfl rfl rfl rfl HO1.out.in_.one H1.out.b0 rfl (fun _ k => Pb.start H1.out HO1.out k) ?_; intro w2 H2)
  refine (refSeenE s x1 y1 z1 w.heap.size w2 H2.out.pn.box).mono ?_; rintro e w2' ⟨rfl, rfl⟩
  have r7 : w2.cell? ⟨w.heap.size, 7, none⟩ = some (.int .i64 s.cur.row) := H2.out.pn.box.cell 7
  have r8 : w2.cell? ⟨w.heap.size, 8, none⟩ = some (.int .i64 s.cur.col) := H2.out.pn.box.cell 8
  have r9 : w2.cell? ⟨w.heap.size, 9, none⟩ = some (.bool s.cur.wrap) := H2.out.pn.box.cell 9
  have r10 : w2.cell? ⟨w.heap.size, 10, none⟩ = some (.int .i64 s.cur.a.fg) := H2.out.pn.box.cell 10
  have r11 : w2.cell? ⟨w.heap.size, 11, none⟩ = some (.int .i64 s.cur.a.bg) := H2.out.pn.box.cell 11
  have r12 : w2.cell? ⟨w.heap.size, 12, none⟩ = some (.int .i64 s.cur.a.flags) := H2.out.pn.box.cell 12
  have r13 : w2.cell? ⟨w.heap.size, 13, none⟩ = some (.int .i64 s.cur.g0) := H2.out.pn.box.cell 13
  have r14 : w2.cell? ⟨w.heap.size, 14, none⟩ = some (.int .i64 s.cur.g1) := H2.out.pn.box.cell 14
  have r15 : w2.cell? ⟨w.heap.size, 15, none⟩ = some (.int .i64 s.cur.shift) := H2.out.pn.box.cell 15
  have r16 : w2.cell? ⟨w.heap.size, 16, none⟩ = some (.bool s.cur.origin) := H2.out.pn.box.cell 16
  have H3 := Lib.hid (Pe.start H2.out)
  go_upto_region 5 with (fail)
  change Code.wp _ _ _ _ ((w2.alloc (pcbx s.cur)).alloc (pabx s.cur.a))
  clear r7 r8 r9 r10 r11 r12 r13 r14 r15 r16 H1 HO1 H2
  generalize (w2.alloc (pcbx s.cur)).alloc (pabx s.cur.a) = w3 at H3 ⊢
  generalize w2.heap.size + 1 = ba at H3 ⊢
  generalize w2.heap.size = bc at H3 ⊢
  obtain ⟨p, hp⟩ : ∃ p, seatO s = p := ⟨_, rfl⟩
  have HPP := Lib.hid hp
  have HP3 : Hid (p ≤ 3) := Lib.hid (by rw [← hp]; exact seatO_le s)
  rw [hp]
  clear hp
  have f9 : w3.frozen? ⟨w.heap.size, 9, none⟩ = false := H3.out.pb.pn.box.free 9
  have c9 : w3.cell? ⟨w.heap.size, 9, none⟩ = some (.bool s.cur.wrap) := H3.out.pb.pn.box.cell 9
  go_upto_region 7 with (fail)
  change Code.wp _ _ _ _ (w3.setCell ⟨w.heap.size, 9, none⟩ (.bool false))
  have H4 := Lib.hid H3.out.wrap
  clear f9 c9 H3
  generalize w3.setCell ⟨w.heap.size, 9, none⟩ (.bool false) = w4 at H4 ⊢
  have HQ0 : Hid (∀ W, Pe w (noWrap s) x1 y1 z1 s.cur bc ba W → W.cell? ⟨bc, 0, none⟩ = some (.int .i64 s.cur.row) ∧ W.cell? ⟨w.heap.size, p, none⟩ = some (.int .i64 s.main.rows)) := Lib.hid fun W k => by
    have q := k.q
    have g := k.grid.1
    rw [show seatO (noWrap s) = p from HPP.out, show (seenG (noWrap s)).rows = s.main.rows from HF.out.gr] at g
    exact ⟨q.c0, g⟩
  go_cut [37] from 32 to 37 (fun s37 wx => s37 = .bool true ∧ Hid (Pe w (noWrap s) x1 y1 z1 s.cur bc ba wx))
  case first =>
    rcases HKK.out with rfl | rfl
    all_goals
      go_wp2_with fail
      go_meet
      exact ⟨rfl, H4⟩
  case rest =>
  obtain ⟨rfl, H5⟩ := hcut
  clear H4 w4
  rename World => w5
  obtain ⟨b0, b1⟩ := HQ0.out w5 H5.out
  go_upto_region 9 with (fail)
  go_quiet (fail)
  go_upto_region 10 with (fail)
  have H6 := Lib.hid (H5.out.kept (bel_drewN w5 nq))
  clear H5 b0 b1
  generalize w5.drewN nq = w6 at H6 ⊢
  obtain ⟨c1, hc1⟩ : ∃ c1, decide (key = 74 ∧ m ≠ 0) = c1 := ⟨_, rfl⟩
  obtain ⟨c2, hc2⟩ : ∃ c2, decide (key = 74 ∧ m ≠ 1) = c2 := ⟨_, rfl⟩
  have HC1 := Lib.hid hc1
  have HC2 := Lib.hid hc2
  clear hc1 hc2
  go_cut [49] from 44 to 49 (fun s49 wx => s49 = .bool c1 ∧ Hid (Pe w (noWrap s) x1 y1 z1 s.cur bc ba wx))
  case first =>
    have hc := HC1.out
    rcases HKK.out with rfl | rfl <;> rcases HM3.out with rfl | rfl | rfl
    all_goals
      go_wp2_with fail
      go_meet
      exact ⟨by rw [← hc]; rfl, H6⟩
  case rest =>
  obtain ⟨rfl, H7⟩ := hcut
  clear H6 w6
  rename World => w7
  go_upto_if 49 with (fail)
  go_cut [10] from 49 to 49 (fun s10 wx => s10 = .int .i64 fr ∧ Hid (Pe w (noWrap s) x1 y1 z1 s.cur bc ba wx))
  case first =>
    have hf := HFR.out
    have hc := HC1.out
    cases c1
    · rw [decide_eq_false_iff_not] at hc
      rw [if_neg hc] at hf
      go_wp2_with fail
      go_meet
      exact ⟨by rw [hf], H7⟩
    · rw [decide_eq_true_eq] at hc
      rw [if_pos hc] at hf
      go_wp2_with fail
      go_meet
      exact ⟨by rw [hf], H7⟩
  case rest =>
  obtain ⟨rfl, H8⟩ := hcut
  clear H7 w7
  rename World => w8
  go_upto_region 12 with (fail)
  go_cut [55] from 50 to 55 (fun s55 wx => s55 = .bool c2 ∧ Hid (Pe w (noWrap s) x1 y1 z1 s.cur bc ba wx))
  case first =>
    have hc := HC2.out
    rcases HKK.out with rfl | rfl <;> rcases HM3.out with rfl | rfl | rfl
    all_goals
      go_wp2_with fail
      go_meet
      exact ⟨by rw [← hc]; rfl, H8⟩
  case rest =>
  obtain ⟨rfl, H9⟩ := hcut
  clear H8 w8
  rename World => w9
  go_upto_if 55 with (fail)
  go_cut [11] from 55 to 60 (fun s11 wx => s11 = .int .i64 to_ ∧ Hid (Pe w (noWrap s) x1 y1 z1 s.cur bc ba wx))
  case first =>
    have hf := HTO.out
    have hc := HC2.out
    cases c2
    · rw [decide_eq_false_iff_not] at hc
      rw [if_neg hc] at hf
      go_wp2_with fail
      go_meet
      exact ⟨by rw [hf], H9⟩
    · rw [decide_eq_true_eq] at hc
      rw [if_pos hc] at hf
      obtain ⟨b0, b1⟩ := HQ0.out w9 H9.out
      go_wp2_with fail
      go_meet
      exact ⟨by rw [hf], H9⟩
  case rest =>
  obtain ⟨rfl, H10⟩ := hcut
  clear H9 w9 HQ0 HFR HTO HC1 HC2 hwR
  rename World => w10
  go_upto_region 17 with (fail)
  obtain ⟨f, hf⟩ : ∃ f : Nat, fr = (f : Int) := ⟨fr.toNat, by have := HSP.out.fr0; omega⟩
  subst hf
  have HR1 := Lib.hid HF.out.r1
  have HGB : Hid (∀ k : Nat, (k : Int) ≤ s.main.rows → gridB (wipeN lo hi s.cur.a k (seenG s)) = true ∧ (wipeN lo hi s.cur.a k (seenG s)).rows = s.main.rows ∧ (wipeN lo hi s.cur.a k (seenG s)).cols = s.main.cols) := Lib.hid fun k hk =>
    ⟨wipeN_ok HF.out.a lo hi k _ HF.out.g (by rw [HF.out.gr]; exact hk), by rw [(wipeN_sides lo hi s.cur.a k (seenG s)).1]; exact HF.out.gr, by rw [(wipeN_sides lo hi s.cur.a k (seenG s)).2]; exact HF.out.gc⟩
  have H0' : Hid (wipeN lo hi s.cur.a f (seenG s) = seenG s) := Lib.hid (wipeN_low fun i hi' => by rw [HF.out.gc]; exact HSP.out.low i (by omega))
  have HGS : Hid (putG (noWrap s) (seenG s) = noWrap s) := Lib.hid (putG_self (noWrap s))
  go_loopw [12] (fun j wr => ∃ (i : Nat) (xi yi : Value), f ≤ i ∧ (i : Int) ≤ to_ + 1 ∧ j = .int .i64 i ∧ Hid (Pe w (putG (noWrap s) (wipeN lo hi s.cur.a i (seenG s))) xi yi z1 s.cur bc ba wr)) (fun j _ => (to_ + 1 - intOf j).toNat)
  case atStart => exact ⟨f, x1, y1, Nat.le_refl _, HSP.out.le, rfl, by rw [H0'.out, HGS.out]; exact H10⟩
  case round =>
    clear H10
    obtain ⟨i, xi, yi, hfi, hi1, rfl, HP⟩ := hrel
    have hto1 := HSP.out.to1
    have h40 := HF.out.r40
    by_cases hlt : (i : Int) ≤ to_
    · have hdl : decide ((i : Int) ≤ to_) = true := decide_eq_true hlt
      obtain ⟨hg, hr, hc⟩ := HGB.out i (by omega)
      obtain ⟨m1, m2, m3, m4, m5⟩ := HSP.out.mid i (by omega) hlt
      have HNX : Hid (wipeN lo hi s.cur.a (i + 1) (seenG s) = wipeRow lo hi s.cur.a (wipeN lo hi s.cur.a i (seenG s)) i) := Lib.hid rfl
      generalize wipeN lo hi s.cur.a i (seenG s) = Gi at hg hr hc HNX HP
      have HWR : Hid (wipeRow lo hi s.cur.a Gi i = withRow Gi i (eraseL (rowG Gi i) (lowI s m i).toNat (highI s m i).toNat s.cur.a)) := Lib.hid (wipeRow_at (by rw [hc]; exact m1) (by rw [hc]; exact m2) m4)
      have hiR : (i : Int) < Gi.rows := by rw [hr]; omega
      have L := Lib.hid (rowF hg hiR)
      have HGR := Lib.hid hg
      have HCC := Lib.hid hc
      obtain ⟨lw, hlw⟩ : ∃ q, lowI s m i = q := ⟨_, rfl⟩
      obtain ⟨hw', hhw⟩ : ∃ q, highI s m i = q := ⟨_, rfl⟩
      have HLW : Hid ((if (i : Int) = s.cur.row ∧ m = 0 then s.cur.col else 0) = lw) := Lib.hid hlw
      have HHW : Hid ((if (i : Int) = s.cur.row ∧ m = 1 then s.cur.col + 1 else s.main.cols) = hw') := Lib.hid hhw
      rw [hlw] at m3 m4 HWR
      rw [hhw] at m4 m5 HWR
      have hlN : ((lw.toNat : Nat) : Int) = lw := by omega
      have hhN : ((hw'.toNat : Nat) : Int) = hw' := by omega
      obtain ⟨mm, hmm⟩ : ∃ q, eraseL (rowG Gi i) lw.toNat hw'.toNat s.cur.a = q := ⟨_, rfl⟩
      have HER0 := Lib.hid hmm
      rw [hmm] at HWR
      have HML : Hid (mm.length = Gi.cols.toNat) := Lib.hid (by rw [← hmm]; exact (erase_row L.out.ok L.out.len HF.out.a (by omega) (by have := L.out.cI; omega)).2)
      have HFN : Hid (∀ W v, Cs W v (rowG Gi i) → Calls Tryz.prog 51 #[v, .int .i64 lw, .int .i64 hw', .agg #[.int .i64 s.cur.a.fg, .int .i64 s.cur.a.bg, .int .i64 s.cur.a.flags]] W fun e w' => ∃ u, e = .returned u ∧ OwnCs w' W.heap.size u mm ∧ Below W.heap.size W w') := Lib.hid fun W v k => by
        have q := refErase_any (rowG Gi i) s.cur.a lw.toNat hw'.toNat v W k (by rw [L.out.len]; have := L.out.c40; omega) (by omega) (by rw [L.out.len]; have := L.out.cI; omega)
        rw [hlN, hhN] at q
        rw [← hmm]
        exact q
      clear hmm m1 m2 hlw hhw hr hc hlN hhN m3 m4 m5
      obtain ⟨XX, hXX⟩ : ∃ X, seenX (putG (noWrap s) Gi) xi yi = X := ⟨_, rfl⟩
      obtain ⟨AX, nX, cX, rfl⟩ : ∃ A n c, XX = .slice A n c := (by subst hXX; obtain ⟨A, c, e, _⟩ := HP.out.rm.2; exact ⟨A, _, c, e⟩)
      have HQ : Hid (∀ W, Pe w (putG (noWrap s) Gi) xi yi z1 s.cur bc ba W → W.cell? ⟨bc, 0, none⟩ = some (.int .i64 s.cur.row) ∧ W.cell? ⟨bc, 1, none⟩ = some (.int .i64 s.cur.col) ∧ W.cell? ⟨ba, 0, none⟩ = some (.int .i64 s.cur.a.fg) ∧ W.cell? ⟨ba, 1, none⟩ = some (.int .i64 s.cur.a.bg) ∧ W.cell? ⟨ba, 2, none⟩ = some (.int .i64 s.cur.a.flags) ∧ W.cell? ⟨w.heap.size, 37, none⟩ = some (.int .i64 s.top) ∧ W.cell? ⟨w.heap.size, 38, none⟩ = some (.int .i64 s.bottom) ∧ W.cell? ⟨w.heap.size, p + 1, none⟩ = some (.int .i64 Gi.cols)) := Lib.hid fun W k => by
        have q := k.q
        have hg := q.g
        have ht := putG_tops (noWrap s) Gi
        rw [seatO_putG, show seatO (noWrap s) = p from HPP.out, seenG_putG] at hg
        exact ⟨q.c0, q.c1, q.a0, q.a1, q.a2, by have := q.t; rw [ht.1] at this; exact this, by have := q.m; rw [ht.2] at this; exact this, hg⟩
      have HG : Hid (∀ W, Pe w (putG (noWrap s) Gi) xi yi z1 s.cur bc ba W → W.cell? ⟨w.heap.size, p, none⟩ = some (.int .i64 Gi.rows) ∧ W.cell? ⟨w.heap.size, p + 1, none⟩ = some (.int .i64 Gi.cols) ∧ W.cell? ⟨w.heap.size, p + 2, none⟩ = some (.slice AX nX cX)) := Lib.hid fun W k => by
        have q := k.grid
        rw [hXX, seatO_putG, show seatO (noWrap s) = p from HPP.out, seenG_putG] at q
        exact q
      have HRM : Hid (∀ W, Pe w (putG (noWrap s) Gi) xi yi z1 s.cur bc ba W → Rm W (.slice AX nX cX) Gi.cells) := Lib.hid fun W k => by
        have q := k.rm
        rw [hXX, seenG_putG] at q
        exact q
      have HPN : Hid (∀ W v G, Pe w (putG (noWrap s) Gi) xi yi z1 s.cur bc ba W → OwnCs W (w.heap.size + 2) v G.cells → ∃ x' y', Pe w (putG (noWrap s) G) x' y' z1 s.cur bc ba (pput W w.heap.size p G.rows G.cols v)) := Lib.hid fun W v G k hv => by
        have q := k.seen hv
        rw [seatO_putG, show seatO (noWrap s) = p from HPP.out, putG_putG] at q
        exact ⟨_, _, q⟩
      have HQ4 : Hid (∀ W G x' y', G.cols = Gi.cols → Pe w (putG (noWrap s) G) x' y' z1 s.cur bc ba W → W.cell? ⟨bc, 0, none⟩ = some (.int .i64 s.cur.row) ∧ W.cell? ⟨bc, 1, none⟩ = some (.int .i64 s.cur.col) ∧ W.cell? ⟨ba, 0, none⟩ = some (.int .i64 s.cur.a.fg) ∧ W.cell? ⟨ba, 1, none⟩ = some (.int .i64 s.cur.a.bg) ∧ W.cell? ⟨ba, 2, none⟩ = some (.int .i64 s.cur.a.flags) ∧ W.cell? ⟨w.heap.size, 37, none⟩ = some (.int .i64 s.top) ∧ W.cell? ⟨w.heap.size, 38, none⟩ = some (.int .i64 s.bottom) ∧ W.cell? ⟨w.heap.size, p + 1, none⟩ = some (.int .i64 Gi.cols)) := Lib.hid fun W G x' y' hc k => by
        have q := k.q
        have hg := q.g
        have ht := putG_tops (noWrap s) G
        rw [seatO_putG, show seatO (noWrap s) = p from HPP.out, seenG_putG, hc] at hg
        exact ⟨q.c0, q.c1, q.a0, q.a1, q.a2, by have := q.t; rw [ht.1] at this; exact this, by have := q.m; rw [ht.2] at this; exact this, hg⟩
      have HAT : Hid (∀ W, Pe w (putG (noWrap s) Gi) xi yi z1 s.cur bc ba W → Calls Tryz.prog 52 #[.agg #[.int .i64 Gi.rows, .int .i64 Gi.cols, .slice AX nX cX], .int .i64 i] W fun e w' => ∃ u, e = .returned u ∧ OwnCs w' W.heap.size u (rowG Gi i) ∧ Below W.heap.size W w') := Lib.hid fun W k =>
        refAtG_any Gi (.slice AX nX cX) i W HGR.out hiR (HRM.out W k)
      have HWT : Hid (∀ W v, Pe w (putG (noWrap s) Gi) xi yi z1 s.cur bc ba W → Cs W v mm → Calls Tryz.prog 50 #[.agg #[.int .i64 Gi.rows, .int .i64 Gi.cols, .slice AX nX cX], .int .i64 i, v] W fun e w' => ∃ u, e = .returned (gridV (withRow Gi i mm) u) ∧ OwnCs w' W.heap.size u (withRow Gi i mm).cells ∧ Below W.heap.size W w') := Lib.hid fun W v k kv =>
        refWithG_any Gi (.slice AX nX cX) v mm i W HGR.out hiR (HRM.out W k) kv HML.out
      have HIR := Lib.hid hiR
      clear hg hiR
      obtain ⟨c0, c1', a0, a1, a2, t0, t1, g1'⟩ := HQ.out wr HP.out
      go_upto_region 19 with (fail)
      go_quiet (fail)
      go_upto_region 20 with (fail)
      have H11 := Lib.hid (HP.out.kept (bel_drewN wr nq))
      clear c0 c1' a0 a1 a2 t0 t1 g1' HP
      generalize wr.drewN nq = w11 at H11 ⊢
      obtain ⟨d1, hd1⟩ : ∃ d1, decide ((i : Int) = s.cur.row ∧ m = 0) = d1 := ⟨_, rfl⟩
      obtain ⟨d2, hd2⟩ : ∃ d2, decide ((i : Int) = s.cur.row ∧ m = 1) = d2 := ⟨_, rfl⟩
      have HD1 := Lib.hid hd1
      have HD2 := Lib.hid hd2
      clear hd1 hd2
      go_cut [81] from 74 to 81 (fun s81 wx => s81 = .bool d1 ∧ Hid (Pe w (putG (noWrap s) Gi) xi yi z1 s.cur bc ba wx))
      case first =>
        obtain ⟨c0, c1', a0, a1, a2, t0, t1, g1'⟩ := HQ.out w11 H11.out
        have hc := HD1.out
        by_cases he : (i : Int) = s.cur.row
        · have hq : ((i : Int) == s.cur.row) = true := by rw [beq_iff_eq]; exact he
          have HE := Lib.hid he
          clear he
          rcases HM3.out with rfl | rfl | rfl
          all_goals
            go_wp2_with fail
            go_meet
            exact ⟨by rw [← hc]; simp [HE.out], H11⟩
        · have hq : ((i : Int) == s.cur.row) = false := by rw [beq_eq_false_iff_ne]; exact he
          go_wp2_with fail
          go_meet
          exact ⟨by rw [← hc]; simp [he], H11⟩
      case rest =>
      obtain ⟨rfl, H12⟩ := hcut
      clear H11 w11
      rename World => w12
      go_upto_if 81 with (fail)
      go_cut [13] from 81 to 83 (fun s13 wx => s13 = .int .i64 lw ∧ Hid (Pe w (putG (noWrap s) Gi) xi yi z1 s.cur bc ba wx))
      case first =>
        have hf := HLW.out
        have hc := HD1.out
        cases d1
        · rw [decide_eq_false_iff_not] at hc
          rw [if_neg hc] at hf
          have HFF := Lib.hid hf
          clear hf hc
          go_wp2_with fail
          go_meet
          exact ⟨by first | rfl | (rw [HFF.out]; done) | (rw [← HFF.out]; done), H12⟩
        · rw [decide_eq_true_eq] at hc
          rw [if_pos hc] at hf
          have HFF := Lib.hid hf
          clear hf hc
          obtain ⟨c0, c1', a0, a1, a2, t0, t1, g1'⟩ := HQ.out w12 H12.out
          go_wp2_with fail
          go_meet
          exact ⟨by first | rfl | (rw [HFF.out]; done) | (rw [← HFF.out]; done), H12⟩
      case rest =>
      obtain ⟨rfl, H13⟩ := hcut
      clear H12 w12
      rename World => w13
      go_upto_region 22 with (fail)
      go_cut [91] from 84 to 91 (fun s91 wx => s91 = .bool d2 ∧ Hid (Pe w (putG (noWrap s) Gi) xi yi z1 s.cur bc ba wx))
      case first =>
        obtain ⟨c0, c1', a0, a1, a2, t0, t1, g1'⟩ := HQ.out w13 H13.out
        have hc := HD2.out
        by_cases he : (i : Int) = s.cur.row
        · have hq : ((i : Int) == s.cur.row) = true := by rw [beq_iff_eq]; exact he
          have HE := Lib.hid he
          clear he
          rcases HM3.out with rfl | rfl | rfl
          all_goals
            go_wp2_with fail
            go_meet
            exact ⟨by rw [← hc]; simp [HE.out], H13⟩
        · have hq : ((i : Int) == s.cur.row) = false := by rw [beq_eq_false_iff_ne]; exact he
          go_wp2_with fail
          go_meet
          exact ⟨by rw [← hc]; simp [he], H13⟩
      case rest =>
      obtain ⟨rfl, H14⟩ := hcut
      clear H13 w13
      rename World => w14
      go_upto_if 91 with (fail)
      go_cut [14] from 91 to 94 (fun s14 wx => s14 = .int .i64 hw' ∧ Hid (Pe w (putG (noWrap s) Gi) xi yi z1 s.cur bc ba wx))
      case first =>
        have hf := HHW.out
        have hc := HD2.out
        cases d2
        · rw [decide_eq_false_iff_not] at hc
          rw [if_neg hc] at hf
          have HFF := Lib.hid hf
          clear hf hc
          go_wp2_with fail
          go_meet
          exact ⟨by first | (rw [← HFF.out, HCC.out]; done) | (rw [HFF.out, HCC.out]; done) | (rw [HCC.out, HFF.out]; done), H14⟩
        · rw [decide_eq_true_eq] at hc
          rw [if_pos hc] at hf
          have HFF := Lib.hid hf
          clear hf hc
          obtain ⟨c0, c1', a0, a1, a2, t0, t1, g1'⟩ := HQ.out w14 H14.out
          have hwc : IntKind.i64.wrap (s.cur.col + 1) = s.cur.col + 1 := by have := HF.out.col0; have := HF.out.col1; have := HF.out.c40; rw [IntKind.wrap_i64]; omega
          go_wp2_with fail
          go_meet
          exact ⟨by first | rfl | (rw [HFF.out]; done) | (rw [← HFF.out]; done), H14⟩
      case rest =>
      obtain ⟨rfl, H6⟩ := hcut
      clear H14 w14 HD1 HD2 HLW HHW
      rename World => w6
      have q4 := HQ.out w6.drew (H6.out.kept (Below.refl _ _).drew)
      obtain ⟨u0, u1, u2⟩ := HG.out w6.drew (H6.out.kept (Below.refl _ _).drew)
      go_upto_region 24 with (fail)
      refine wp_region_held_drew (S := fun w' => w'.cell? ⟨bc, 0, none⟩ = some (.int .i64 s.cur.row) ∧ w'.cell? ⟨bc, 1, none⟩ = some (.int .i64 s.cur.col) ∧ w'.cell? ⟨ba, 0, none⟩ = some (.int .i64 s.cur.a.fg) ∧ w'.cell? ⟨ba, 1, none⟩ = some (.int .i64 s.cur.a.bg) ∧ w'.cell? ⟨ba, 2, none⟩ = some (.int .i64 s.cur.a.flags) ∧ w'.cell? ⟨w.heap.size, 37, none⟩ = some (.int .i64 s.top) ∧ w'.cell? ⟨w.heap.size, 38, none⟩ = some (.int .i64 s.bottom) ∧ w'.cell? ⟨w.heap.size, p + 1, none⟩ = some (.int .i64 Gi.cols)) (by kernel_rfl) q4 (fun hHeld => ?_)
      refine wpAnyH_take (i := 0) (v := ?_) rfl (by kernel_rfl) (by kernel_rfl) (by kernel_rfl) (fun _ _ _ h => h) (Or.inl ⟨by rfl, ?_⟩) (by assumption) ?_
      rotate_left
      · intro w' hSw; first | (go_simp; done) | (go_simp; with_reducible rfl)
      simp only [Act.put, List.getElem_toArray, List.getElem_cons_zero, List.setIfInBounds_toArray, List.set_cons_zero, List.set_cons_succ]
      refine wpAnyH_take (i := 1) (v := ?_) rfl (by kernel_rfl) (by kernel_rfl) (by kernel_rfl) (fun _ _ _ h => h) (Or.inl ⟨by rfl, ?_⟩) (by assumption) ?_
      rotate_left
      · intro w' hSw; first | (go_simp; done) | (go_simp; with_reducible rfl)
      simp only [Act.put, List.getElem_toArray, List.getElem_cons_zero, List.getElem_cons_succ, List.setIfInBounds_toArray, List.set_cons_zero, List.set_cons_succ]
      refine wpAnyH_take (i := 2) (v := ?_) rfl (by kernel_rfl) (by kernel_rfl) (by kernel_rfl) (fun _ _ _ h => h) (Or.inl ⟨by rfl, ?_⟩) (by assumption) ?_
      rotate_left
      · intro w' hSw; first | (go_simp; done) | (go_simp; with_reducible rfl)
      simp only [Act.put, List.getElem_toArray, List.getElem_cons_zero, List.getElem_cons_succ, List.setIfInBounds_toArray, List.set_cons_zero, List.set_cons_succ]
      refine wpAnyH_take (i := 4) (v := ?_) rfl (by kernel_rfl) (by kernel_rfl) (by kernel_rfl) (fun _ _ _ h => h) (Or.inl ⟨by rfl, ?_⟩) (by assumption) ?_
      rotate_left
      · intro w' hSw; first | (go_simp; done) | (go_simp; with_reducible rfl)
      simp only [Act.put, List.getElem_toArray, List.getElem_cons_zero, List.getElem_cons_succ, List.setIfInBounds_toArray, List.set_cons_zero, List.set_cons_succ]
      refine wpAnyH_take (i := 5) (v := ?_) rfl (by kernel_rfl) (by kernel_rfl) (by kernel_rfl) (fun _ _ _ h => h) (Or.inl ⟨by rfl, ?_⟩) (by assumption) ?_
      rotate_left
      · intro w' hSw; first | (go_simp; done) | (go_simp; with_reducible rfl)
      simp only [Act.put, List.getElem_toArray, List.getElem_cons_zero, List.getElem_cons_succ, List.setIfInBounds_toArray, List.set_cons_zero, List.set_cons_succ]
      refine wpAnyH_take (i := 6) (v := ?_) rfl (by kernel_rfl) (by kernel_rfl) (by kernel_rfl) (fun _ _ _ h => h) (Or.inl ⟨by rfl, ?_⟩) (by assumption) ?_
      rotate_left
      · intro w' hSw; first | (go_simp; done) | (go_simp; with_reducible rfl)
      simp only [Act.put, List.getElem_toArray, List.getElem_cons_zero, List.getElem_cons_succ, List.setIfInBounds_toArray, List.set_cons_zero, List.set_cons_succ]
      refine wpAnyH_take (i := 8) (v := ?_) rfl (by kernel_rfl) (by kernel_rfl) (by kernel_rfl) (fun _ _ _ h => h) (Or.inl ⟨by rfl, ?_⟩) (by assumption) ?_
      rotate_left
      · intro w' hSw; first | (go_simp; done) | (go_simp; with_reducible rfl)
      simp only [Act.put, List.getElem_toArray, List.getElem_cons_zero, List.getElem_cons_succ, List.setIfInBounds_toArray, List.set_cons_zero, List.set_cons_succ]
      refine wpAnyH_take (i := 10) (v := ?_) rfl (by kernel_rfl) (by kernel_rfl) (by kernel_rfl) (fun _ _ _ h => h) (Or.inl ⟨by rfl, ?_⟩) (by assumption) ?_
      rotate_left
      · intro w' hSw; first | (go_simp; done) | (go_simp; with_reducible rfl)
      simp only [Act.put, List.getElem_toArray, List.getElem_cons_zero, List.getElem_cons_succ, List.setIfInBounds_toArray, List.set_cons_zero, List.set_cons_succ]
      refine wpAnyH_take (i := 11) (v := ?_) rfl (by kernel_rfl) (by kernel_rfl) (by kernel_rfl) (fun _ _ _ h => h) (Or.inl ⟨by rfl, ?_⟩) (by assumption) ?_
      rotate_left
      · intro w' hSw; first | (go_simp; done) | (go_simp; with_reducible rfl)
      simp only [Act.put, List.getElem_toArray, List.getElem_cons_zero, List.getElem_cons_succ, List.setIfInBounds_toArray, List.set_cons_zero, List.set_cons_succ]
      refine wpAnyH_take (i := 12) (v := ?_) rfl (by kernel_rfl) (by kernel_rfl) (by kernel_rfl) (fun _ _ _ h => h) (Or.inl ⟨by rfl, ?_⟩) (by assumption) ?_
      rotate_left
      · intro w' hSw; first | (go_simp; done) | (go_simp; with_reducible rfl)
      simp only [Act.put, List.getElem_toArray, List.getElem_cons_zero, List.getElem_cons_succ, List.setIfInBounds_toArray, List.set_cons_zero, List.set_cons_succ]
      refine wpAnyH_ready (rs := [3, 7]) (by kernel_rfl) (by simp) ?_
      refine AllReadyH.cons rfl (fun K hK => ?_) ?_
      · go_simp
        refine hK.out _ _ q4 (fun hHeld => ?_)
        clear hK K
        refine wpAnyH_ready (rs := [7]) (by kernel_rfl) (by simp) ?_
        refine AllReadyH.cons rfl (fun K hK => ?_) ?_
        · go_simp
          refine hK.out _ _ q4 (fun hHeld => ?_)
          clear hK K
          refine wpAnyH_ready (rs := [9]) (by kernel_rfl) (by simp) ?_
          refine AllReadyH.cons rfl (fun K hK => ?_) ?_
          · go_simp
            go_at_call 52
            refine (HAT.out w6.drew (H6.out.kept (Below.refl _ _).drew)).mono ?_; rintro e wa ⟨va, rfl, ho, hb⟩
            have Ha := Lib.hid (H6.out.kept ((Below.refl _ _).drew.trans hb))
            obtain ⟨Aa, ca, rfl, _⟩ := ho.cs.form
            have HVa := Lib.hid ho.cs
            have qc1 := HQ.out wa Ha.out
            obtain ⟨s0, s1, s2⟩ := HG.out wa Ha.out
            clear ho hb
            refine hK.out _ _ qc1 (fun hHeld => ?_)
            clear hK K
            refine wpAnyH_ready (rs := [13]) (by kernel_rfl) (by simp) ?_
            refine AllReadyH.cons rfl (fun K hK => ?_) ?_
            · go_simp
              go_at_call 51
              refine (HFN.out wa _ HVa.out).mono ?_; rintro e w7 ⟨v7, rfl, ho, hb⟩
              have H7 := Lib.hid (Ha.out.kept hb)
              obtain ⟨A7, c7, rfl, _⟩ := ho.cs.form
              have HV7 := Lib.hid ho.cs
              have qc2 := HQ.out w7 H7.out
              obtain ⟨v0, v1, v2⟩ := HG.out w7 H7.out
              clear ho hb
              refine hK.out _ _ qc2 (fun hHeld => ?_)
              clear hK K
              refine wpAnyH_ready (rs := [14]) (by kernel_rfl) (by simp) ?_
              refine AllReadyH.cons rfl (fun K hK => ?_) ?_
              · go_simp
                go_at_call 50
                refine (HWT.out w7 _ H7.out HV7.out).mono ?_; rintro e w8 ⟨v8, rfl, ho, hb⟩
                obtain ⟨A', n', c', rfl⟩ : ∃ A n c, v8 = .slice A n c := (by obtain ⟨A, c, e, _⟩ := ho.rm.2; exact ⟨A, _, c, e⟩)
                have H8 := Lib.hid (H7.out.kept hb)
                obtain ⟨x9, y9, h9'⟩ := HPN.out w8 _ (withRow Gi i mm) H8.out (ho.low H7.out.pb.pn.up)
                have H9 := Lib.hid h9'
                have qc3 := HQ.out w8 H8.out
                obtain ⟨r0, r1, r2⟩ := HG.out w8 H8.out
                have q8 := HQ4.out _ (withRow Gi i mm) _ _ rfl H9.out
                have f2 : ∀ j, w8.frozen? ⟨w.heap.size, j, none⟩ = false := H8.out.pb.pn.box.free
                clear ho hb h9'
                refine hK.out _ _ qc3 (fun hHeld => ?_)
                clear hK K
                refine wpAnyH_take (i := 15) (v := ?_) rfl (by kernel_rfl) (by kernel_rfl) (by kernel_rfl) (fun _ _ _ h => h) (Or.inl ⟨by rfl, ?_⟩) (by assumption) ?_
                rotate_left
                · intro w' hSw; first | (go_simp; done) | (go_simp; with_reducible rfl)
                simp only [Act.put, List.getElem_toArray, List.getElem_cons_zero, List.getElem_cons_succ, List.setIfInBounds_toArray, List.set_cons_zero, List.set_cons_succ]
                refine wpAnyH_ready (rs := [16]) (by kernel_rfl) (by simp) ?_
                refine AllReadyH.cons rfl (fun K hK => ?_) ?_
                · go_simp
                  refine hK.out _ _ q8 (fun hHeld => ?_)
                  clear hK K
                  refine wpAnyH_done (by kernel_rfl) ?_ _
                  first | show Exit.then _ _ _ _ (pput w8 w.heap.size p (withRow Gi i mm).rows (withRow Gi i mm).cols (.slice A' n' c')) | show Exit.inBlock _ _ _ _ (pput w8 w.heap.size p (withRow Gi i mm).rows (withRow Gi i mm).cols (.slice A' n' c')) | show Exit.inLoop _ _ _ _ (pput w8 w.heap.size p (withRow Gi i mm).rows (withRow Gi i mm).cols (.slice A' n' c'))
                  clear r0 r1 r2 v0 v1 v2 s0 s1 s2 u0 u1 u2 q4 q8 qc1 qc2 qc3 f2 hHeld HPN HQ HG HQ4 HRM HAT HFN HWT H6 Ha H7 H8 HVa HV7
                  generalize pput w8 w.heap.size p (withRow Gi i mm).rows (withRow Gi i mm).cols (.slice A' n' c') = wz at H9 ⊢
                  go_wp2_with fail
                  go_roundw
                  case rel => exact ⟨i + 1, x9, y9, by omega, by omega, by go_num, by rw [HNX.out, HWR.out]; exact H9⟩
                  case measure => simp [intOf]; omega
                exact AllReadyH.nil
              exact AllReadyH.nil
            exact AllReadyH.nil
          exact AllReadyH.nil
        exact AllReadyH.nil
      refine AllReadyH.cons rfl (fun K hK => ?_) ?_
      · go_simp
        refine hK.out _ _ q4 (fun hHeld => ?_)
        clear hK K
        refine wpAnyH_ready (rs := [3, 9]) (by kernel_rfl) (by simp) ?_
        refine AllReadyH.cons rfl (fun K hK => ?_) ?_
        · go_simp
          refine hK.out _ _ q4 (fun hHeld => ?_)
          clear hK K
          refine wpAnyH_ready (rs := [9]) (by kernel_rfl) (by simp) ?_
          refine AllReadyH.cons rfl (fun K hK => ?_) ?_
          · go_simp
            go_at_call 52
            refine (HAT.out w6.drew (H6.out.kept (Below.refl _ _).drew)).mono ?_; rintro e wa ⟨va, rfl, ho, hb⟩
            have Ha := Lib.hid (H6.out.kept ((Below.refl _ _).drew.trans hb))
            obtain ⟨Aa, ca, rfl, _⟩ := ho.cs.form
            have HVa := Lib.hid ho.cs
            have qc1 := HQ.out wa Ha.out
            obtain ⟨s0, s1, s2⟩ := HG.out wa Ha.out
            clear ho hb
            refine hK.out _ _ qc1 (fun hHeld => ?_)
            clear hK K
            refine wpAnyH_ready (rs := [13]) (by kernel_rfl) (by simp) ?_
            refine AllReadyH.cons rfl (fun K hK => ?_) ?_
            · go_simp
              go_at_call 51
              refine (HFN.out wa _ HVa.out).mono ?_; rintro e w7 ⟨v7, rfl, ho, hb⟩
              have H7 := Lib.hid (Ha.out.kept hb)
              obtain ⟨A7, c7, rfl, _⟩ := ho.cs.form
              have HV7 := Lib.hid ho.cs
              have qc2 := HQ.out w7 H7.out
              obtain ⟨v0, v1, v2⟩ := HG.out w7 H7.out
              clear ho hb
              refine hK.out _ _ qc2 (fun hHeld => ?_)
              clear hK K
              refine wpAnyH_ready (rs := [14]) (by kernel_rfl) (by simp) ?_
              refine AllReadyH.cons rfl (fun K hK => ?_) ?_
              · go_simp
                go_at_call 50
                refine (HWT.out w7 _ H7.out HV7.out).mono ?_; rintro e w8 ⟨v8, rfl, ho, hb⟩
                obtain ⟨A', n', c', rfl⟩ : ∃ A n c, v8 = .slice A n c := (by obtain ⟨A, c, e, _⟩ := ho.rm.2; exact ⟨A, _, c, e⟩)
                have H8 := Lib.hid (H7.out.kept hb)
                obtain ⟨x9, y9, h9'⟩ := HPN.out w8 _ (withRow Gi i mm) H8.out (ho.low H7.out.pb.pn.up)
                have H9 := Lib.hid h9'
                have qc3 := HQ.out w8 H8.out
                obtain ⟨r0, r1, r2⟩ := HG.out w8 H8.out
                have q8 := HQ4.out _ (withRow Gi i mm) _ _ rfl H9.out
                have f2 : ∀ j, w8.frozen? ⟨w.heap.size, j, none⟩ = false := H8.out.pb.pn.box.free
                clear ho hb h9'
                refine hK.out _ _ qc3 (fun hHeld => ?_)
                clear hK K
                refine wpAnyH_take (i := 15) (v := ?_) rfl (by kernel_rfl) (by kernel_rfl) (by kernel_rfl) (fun _ _ _ h => h) (Or.inl ⟨by rfl, ?_⟩) (by assumption) ?_
                rotate_left
                · intro w' hSw; first | (go_simp; done) | (go_simp; with_reducible rfl)
                simp only [Act.put, List.getElem_toArray, List.getElem_cons_zero, List.getElem_cons_succ, List.setIfInBounds_toArray, List.set_cons_zero, List.set_cons_succ]
                refine wpAnyH_ready (rs := [16]) (by kernel_rfl) (by simp) ?_
                refine AllReadyH.cons rfl (fun K hK => ?_) ?_
                · go_simp
                  refine hK.out _ _ q8 (fun hHeld => ?_)
                  clear hK K
                  refine wpAnyH_done (by kernel_rfl) ?_ _
                  first | show Exit.then _ _ _ _ (pput w8 w.heap.size p (withRow Gi i mm).rows (withRow Gi i mm).cols (.slice A' n' c')) | show Exit.inBlock _ _ _ _ (pput w8 w.heap.size p (withRow Gi i mm).rows (withRow Gi i mm).cols (.slice A' n' c')) | show Exit.inLoop _ _ _ _ (pput w8 w.heap.size p (withRow Gi i mm).rows (withRow Gi i mm).cols (.slice A' n' c'))
                  clear r0 r1 r2 v0 v1 v2 s0 s1 s2 u0 u1 u2 q4 q8 qc1 qc2 qc3 f2 hHeld HPN HQ HG HQ4 HRM HAT HFN HWT H6 Ha H7 H8 HVa HV7
                  generalize pput w8 w.heap.size p (withRow Gi i mm).rows (withRow Gi i mm).cols (.slice A' n' c') = wz at H9 ⊢
                  go_wp2_with fail
                  go_roundw
                  case rel => exact ⟨i + 1, x9, y9, by omega, by omega, by go_num, by rw [HNX.out, HWR.out]; exact H9⟩
                  case measure => simp [intOf]; omega
                exact AllReadyH.nil
              exact AllReadyH.nil
            exact AllReadyH.nil
          exact AllReadyH.nil
        refine AllReadyH.cons rfl (fun K hK => ?_) ?_
        · go_simp
          go_at_call 52
          refine (HAT.out w6.drew (H6.out.kept (Below.refl _ _).drew)).mono ?_; rintro e wa ⟨va, rfl, ho, hb⟩
          have Ha := Lib.hid (H6.out.kept ((Below.refl _ _).drew.trans hb))
          obtain ⟨Aa, ca, rfl, _⟩ := ho.cs.form
          have HVa := Lib.hid ho.cs
          have qc1 := HQ.out wa Ha.out
          obtain ⟨s0, s1, s2⟩ := HG.out wa Ha.out
          clear ho hb
          refine hK.out _ _ qc1 (fun hHeld => ?_)
          clear hK K
          refine wpAnyH_ready (rs := [3, 13]) (by kernel_rfl) (by simp) ?_
          refine AllReadyH.cons rfl (fun K hK => ?_) ?_
          · go_simp
            refine hK.out _ _ qc1 (fun hHeld => ?_)
            clear hK K
            refine wpAnyH_ready (rs := [13]) (by kernel_rfl) (by simp) ?_
            refine AllReadyH.cons rfl (fun K hK => ?_) ?_
            · go_simp
              go_at_call 51
              refine (HFN.out wa _ HVa.out).mono ?_; rintro e w7 ⟨v7, rfl, ho, hb⟩
              have H7 := Lib.hid (Ha.out.kept hb)
              obtain ⟨A7, c7, rfl, _⟩ := ho.cs.form
              have HV7 := Lib.hid ho.cs
              have qc2 := HQ.out w7 H7.out
              obtain ⟨v0, v1, v2⟩ := HG.out w7 H7.out
              clear ho hb
              refine hK.out _ _ qc2 (fun hHeld => ?_)
              clear hK K
              refine wpAnyH_ready (rs := [14]) (by kernel_rfl) (by simp) ?_
              refine AllReadyH.cons rfl (fun K hK => ?_) ?_
              · go_simp
                go_at_call 50
                refine (HWT.out w7 _ H7.out HV7.out).mono ?_; rintro e w8 ⟨v8, rfl, ho, hb⟩
                obtain ⟨A', n', c', rfl⟩ : ∃ A n c, v8 = .slice A n c := (by obtain ⟨A, c, e, _⟩ := ho.rm.2; exact ⟨A, _, c, e⟩)
                have H8 := Lib.hid (H7.out.kept hb)
                obtain ⟨x9, y9, h9'⟩ := HPN.out w8 _ (withRow Gi i mm) H8.out (ho.low H7.out.pb.pn.up)
                have H9 := Lib.hid h9'
                have qc3 := HQ.out w8 H8.out
                obtain ⟨r0, r1, r2⟩ := HG.out w8 H8.out
                have q8 := HQ4.out _ (withRow Gi i mm) _ _ rfl H9.out
                have f2 : ∀ j, w8.frozen? ⟨w.heap.size, j, none⟩ = false := H8.out.pb.pn.box.free
                clear ho hb h9'
                refine hK.out _ _ qc3 (fun hHeld => ?_)
                clear hK K
                refine wpAnyH_take (i := 15) (v := ?_) rfl (by kernel_rfl) (by kernel_rfl) (by kernel_rfl) (fun _ _ _ h => h) (Or.inl ⟨by rfl, ?_⟩) (by assumption) ?_
                rotate_left
                · intro w' hSw; first | (go_simp; done) | (go_simp; with_reducible rfl)
                simp only [Act.put, List.getElem_toArray, List.getElem_cons_zero, List.getElem_cons_succ, List.setIfInBounds_toArray, List.set_cons_zero, List.set_cons_succ]
                refine wpAnyH_ready (rs := [16]) (by kernel_rfl) (by simp) ?_
                refine AllReadyH.cons rfl (fun K hK => ?_) ?_
                · go_simp
                  refine hK.out _ _ q8 (fun hHeld => ?_)
                  clear hK K
                  refine wpAnyH_done (by kernel_rfl) ?_ _
                  first | show Exit.then _ _ _ _ (pput w8 w.heap.size p (withRow Gi i mm).rows (withRow Gi i mm).cols (.slice A' n' c')) | show Exit.inBlock _ _ _ _ (pput w8 w.heap.size p (withRow Gi i mm).rows (withRow Gi i mm).cols (.slice A' n' c')) | show Exit.inLoop _ _ _ _ (pput w8 w.heap.size p (withRow Gi i mm).rows (withRow Gi i mm).cols (.slice A' n' c'))
                  clear r0 r1 r2 v0 v1 v2 s0 s1 s2 u0 u1 u2 q4 q8 qc1 qc2 qc3 f2 hHeld HPN HQ HG HQ4 HRM HAT HFN HWT H6 Ha H7 H8 HVa HV7
                  generalize pput w8 w.heap.size p (withRow Gi i mm).rows (withRow Gi i mm).cols (.slice A' n' c') = wz at H9 ⊢
                  go_wp2_with fail
                  go_roundw
                  case rel => exact ⟨i + 1, x9, y9, by omega, by omega, by go_num, by rw [HNX.out, HWR.out]; exact H9⟩
                  case measure => simp [intOf]; omega
                exact AllReadyH.nil
              exact AllReadyH.nil
            exact AllReadyH.nil
          refine AllReadyH.cons rfl (fun K hK => ?_) ?_
          · go_simp
            go_at_call 51
            refine (HFN.out wa _ HVa.out).mono ?_; rintro e w7 ⟨v7, rfl, ho, hb⟩
            have H7 := Lib.hid (Ha.out.kept hb)
            obtain ⟨A7, c7, rfl, _⟩ := ho.cs.form
            have HV7 := Lib.hid ho.cs
            have qc2 := HQ.out w7 H7.out
            obtain ⟨v0, v1, v2⟩ := HG.out w7 H7.out
            clear ho hb
            refine hK.out _ _ qc2 (fun hHeld => ?_)
            clear hK K
            refine wpAnyH_ready (rs := [3]) (by kernel_rfl) (by simp) ?_
            refine AllReadyH.cons rfl (fun K hK => ?_) ?_
            · go_simp
              refine hK.out _ _ qc2 (fun hHeld => ?_)
              clear hK K
              refine wpAnyH_ready (rs := [14]) (by kernel_rfl) (by simp) ?_
              refine AllReadyH.cons rfl (fun K hK => ?_) ?_
              · go_simp
                go_at_call 50
                refine (HWT.out w7 _ H7.out HV7.out).mono ?_; rintro e w8 ⟨v8, rfl, ho, hb⟩
                obtain ⟨A', n', c', rfl⟩ : ∃ A n c, v8 = .slice A n c := (by obtain ⟨A, c, e, _⟩ := ho.rm.2; exact ⟨A, _, c, e⟩)
                have H8 := Lib.hid (H7.out.kept hb)
                obtain ⟨x9, y9, h9'⟩ := HPN.out w8 _ (withRow Gi i mm) H8.out (ho.low H7.out.pb.pn.up)
                have H9 := Lib.hid h9'
                have qc3 := HQ.out w8 H8.out
                obtain ⟨r0, r1, r2⟩ := HG.out w8 H8.out
                have q8 := HQ4.out _ (withRow Gi i mm) _ _ rfl H9.out
                have f2 : ∀ j, w8.frozen? ⟨w.heap.size, j, none⟩ = false := H8.out.pb.pn.box.free
                clear ho hb h9'
                refine hK.out _ _ qc3 (fun hHeld => ?_)
                clear hK K
                refine wpAnyH_take (i := 15) (v := ?_) rfl (by kernel_rfl) (by kernel_rfl) (by kernel_rfl) (fun _ _ _ h => h) (Or.inl ⟨by rfl, ?_⟩) (by assumption) ?_
                rotate_left
                · intro w' hSw; first | (go_simp; done) | (go_simp; with_reducible rfl)
                simp only [Act.put, List.getElem_toArray, List.getElem_cons_zero, List.getElem_cons_succ, List.setIfInBounds_toArray, List.set_cons_zero, List.set_cons_succ]
                refine wpAnyH_ready (rs := [16]) (by kernel_rfl) (by simp) ?_
                refine AllReadyH.cons rfl (fun K hK => ?_) ?_
                · go_simp
                  refine hK.out _ _ q8 (fun hHeld => ?_)
                  clear hK K
                  refine wpAnyH_done (by kernel_rfl) ?_ _
                  first | show Exit.then _ _ _ _ (pput w8 w.heap.size p (withRow Gi i mm).rows (withRow Gi i mm).cols (.slice A' n' c')) | show Exit.inBlock _ _ _ _ (pput w8 w.heap.size p (withRow Gi i mm).rows (withRow Gi i mm).cols (.slice A' n' c')) | show Exit.inLoop _ _ _ _ (pput w8 w.heap.size p (withRow Gi i mm).rows (withRow Gi i mm).cols (.slice A' n' c'))
                  clear r0 r1 r2 v0 v1 v2 s0 s1 s2 u0 u1 u2 q4 q8 qc1 qc2 qc3 f2 hHeld HPN HQ HG HQ4 HRM HAT HFN HWT H6 Ha H7 H8 HVa HV7
                  generalize pput w8 w.heap.size p (withRow Gi i mm).rows (withRow Gi i mm).cols (.slice A' n' c') = wz at H9 ⊢
                  go_wp2_with fail
                  go_roundw
                  case rel => exact ⟨i + 1, x9, y9, by omega, by omega, by go_num, by rw [HNX.out, HWR.out]; exact H9⟩
                  case measure => simp [intOf]; omega
                exact AllReadyH.nil
              exact AllReadyH.nil
            exact AllReadyH.nil
          exact AllReadyH.nil
        exact AllReadyH.nil
      exact AllReadyH.nil
    · have hdl : decide ((i : Int) ≤ to_) = false := decide_eq_false hlt
      have HWN : Hid (wipeN lo hi s.cur.a s.main.rows.toNat (seenG s) = wipeN lo hi s.cur.a i (seenG s)) := Lib.hid (by
        obtain ⟨q, hq⟩ : ∃ q, s.main.rows.toNat = i + q := ⟨s.main.rows.toNat - i, by have := HF.out.r1; omega⟩
        rw [hq]
        exact wipeN_high fun k h1 h2 => by rw [HF.out.gc]; exact HSP.out.high k (by omega) (by omega))
      rw [← HWN.out] at HP
      go_wp2_with (first
        | (refine wp_loadS (b := w.heap.size) (s := putG (noWrap s) (wipeN lo hi s.cur.a s.main.rows.toNat (seenG s))) rfl rfl rfl HP.out.pb.pn.box ?_)
        | (refine wp_storeS (b := w.heap.size + 1) rfl rfl rfl rfl rfl HP.out.pb.pn.own.in_.one HP.out.pb.b1 rfl ?_; intro w9 h9))
      refine bodyPost_ret (ret1S rfl rfl h9.box) rfl ?_
      exact ⟨_, _, _, rfl, Own.low (h9.own HP.out.pb.pn.own (by omega)) (by omega), h9.below _ _ (by omega) HP.out.pb.bel⟩
set_option maxHeartbeats 6400000 in
theorem refEd_none (s : S) (x y z : Value) (key n : Int) (w : World) (h : In w s x y z) (hok : Ok s) (hk : key = 74 ∨ key = 75) (hn : 2 < n) :
    Calls Tryz.prog 28 #[sv s x y z, .int .i64 key, .int .i64 n] w fun e w' => ∃ x' y' z', e = .returned (sv (noWrap s) x' y' z') ∧ Own w' w.heap.size (noWrap s) x' y' z' ∧ Below w.heap.size w w' := by
  have HI := Lib.hid h
  have HF := Lib.hid hok.facts
  have H0 := Lib.hid (Rz.start w s x y z)
  have HL := Lib.hid hok.lens
  have HOK := Lib.hid hok
  have HKK := Lib.hid hk
  have e83 : (key == 83) = false := by rw [beq_eq_false_iff_ne]; omega
  have e84 : (key == 84) = false := by rw [beq_eq_false_iff_ne]; omega
  have n83 : (key != 83) = true := by rw [bne_iff_ne]; omega
  have n84 : (key != 84) = true := by rw [bne_iff_ne]; omega
  have hmax : max 0 n = n := by omega
  have hm2 : decide (2 < n) = true := decide_eq_true hn
  have hwR : IntKind.i64.wrap (s.main.rows - 1) = s.main.rows - 1 := by have := HF.out.r1; have := HF.out.r40; rw [IntKind.wrap_i64]; omega
  have en0 : (n == 0) = false := by rw [beq_eq_false_iff_ne]; omega
  have en1 : (n == 1) = false := by rw [beq_eq_false_iff_ne]; omega
  clear h hok hk hn
  go_enter Tryz.func28, Tryz.ntmps28
  go_wp2_with (first
    | (refine wp_allocS1 (w := w) rfl rfl ?_)
    | (refine wp_loadS (b := w.heap.size) (s := s) rfl rfl rfl H0.out.b0 ?_))
  refine (copyScreen_any s x y z _ (HI.out.kept H0.out.bel) HL.out).mono ?_; rintro e w1 ⟨x1, y1, z1, rfl, ho, hb⟩
  have H1 := Lib.hid (H0.out.kept hb)
  have HO1 := Lib.hid (ho.low H0.out.up)
  clear ho hb H0 HI
  go_wp2_with (refine wp_storeS_then (b := w.heap.size) (A := sarr s x1 y1 z1) (T := Pb w s x1 y1 z1) rfl rfl rfl rfl rfl HO1.out.in_.one H1.out.b0 rfl (fun _ k => Pb.start H1.out HO1.out k) ?_; intro w2 H2)
  refine (refSeenE s x1 y1 z1 w.heap.size w2 H2.out.pn.box).mono ?_; rintro e w2' ⟨rfl, rfl⟩
  have r7 : w2.cell? ⟨w.heap.size, 7, none⟩ = some (.int .i64 s.cur.row) := H2.out.pn.box.cell 7
  have r8 : w2.cell? ⟨w.heap.size, 8, none⟩ = some (.int .i64 s.cur.col) := H2.out.pn.box.cell 8
  have r9 : w2.cell? ⟨w.heap.size, 9, none⟩ = some (.bool s.cur.wrap) := H2.out.pn.box.cell 9
  have r10 : w2.cell? ⟨w.heap.size, 10, none⟩ = some (.int .i64 s.cur.a.fg) := H2.out.pn.box.cell 10
  have r11 : w2.cell? ⟨w.heap.size, 11, none⟩ = some (.int .i64 s.cur.a.bg) := H2.out.pn.box.cell 11
  have r12 : w2.cell? ⟨w.heap.size, 12, none⟩ = some (.int .i64 s.cur.a.flags) := H2.out.pn.box.cell 12
  have r13 : w2.cell? ⟨w.heap.size, 13, none⟩ = some (.int .i64 s.cur.g0) := H2.out.pn.box.cell 13
  have r14 : w2.cell? ⟨w.heap.size, 14, none⟩ = some (.int .i64 s.cur.g1) := H2.out.pn.box.cell 14
  have r15 : w2.cell? ⟨w.heap.size, 15, none⟩ = some (.int .i64 s.cur.shift) := H2.out.pn.box.cell 15
  have r16 : w2.cell? ⟨w.heap.size, 16, none⟩ = some (.bool s.cur.origin) := H2.out.pn.box.cell 16
  have H3 := Lib.hid (Pe.start H2.out)
  go_upto_region 5 with (fail)
  change Code.wp _ _ _ _ ((w2.alloc (pcbx s.cur)).alloc (pabx s.cur.a))
  clear r7 r8 r9 r10 r11 r12 r13 r14 r15 r16 H1 HO1 H2
  generalize (w2.alloc (pcbx s.cur)).alloc (pabx s.cur.a) = w3 at H3 ⊢
  generalize w2.heap.size + 1 = ba at H3 ⊢
  generalize w2.heap.size = bc at H3 ⊢
  obtain ⟨p, hp⟩ : ∃ p, seatO s = p := ⟨_, rfl⟩
  have HPP := Lib.hid hp
  have HP3 : Hid (p ≤ 3) := Lib.hid (by rw [← hp]; exact seatO_le s)
  rw [hp]
  clear hp
  have f9 : w3.frozen? ⟨w.heap.size, 9, none⟩ = false := H3.out.pb.pn.box.free 9
  have c9 : w3.cell? ⟨w.heap.size, 9, none⟩ = some (.bool s.cur.wrap) := H3.out.pb.pn.box.cell 9
  go_upto_region 7 with (fail)
  change Code.wp _ _ _ _ (w3.setCell ⟨w.heap.size, 9, none⟩ (.bool false))
  have H4 := Lib.hid H3.out.wrap
  clear f9 c9 H3
  generalize w3.setCell ⟨w.heap.size, 9, none⟩ (.bool false) = w4 at H4 ⊢
  have HQ0 : Hid (∀ W, Pe w (noWrap s) x1 y1 z1 s.cur bc ba W → W.cell? ⟨bc, 0, none⟩ = some (.int .i64 s.cur.row) ∧ W.cell? ⟨w.heap.size, p, none⟩ = some (.int .i64 s.main.rows)) := Lib.hid fun W k => by
    have q := k.q
    have g := k.grid.1
    rw [show seatO (noWrap s) = p from HPP.out, show (seenG (noWrap s)).rows = s.main.rows from HF.out.gr] at g
    exact ⟨q.c0, g⟩
  rcases HKK.out with rfl | rfl
  all_goals
    obtain ⟨b0, b1⟩ := HQ0.out w4 H4.out
    go_upto_region 9 with (fail)
    go_quiet (fail)
    go_upto_region 10 with (fail)
    have H6 := Lib.hid (H4.out.kept (bel_drewN w4 nq))
    clear H4 b0 b1
    generalize w4.drewN nq = w6 at H6 ⊢
    obtain ⟨b0, b1⟩ := HQ0.out w6 H6.out
    go_wp2_with (first
      | (refine wp_loadS (b := w.heap.size) (s := noWrap s) rfl rfl rfl H6.out.pb.pn.box ?_)
      | (refine wp_storeS (b := w.heap.size + 1) rfl rfl rfl rfl rfl H6.out.pb.pn.own.in_.one H6.out.pb.b1 rfl ?_; intro w9 h9))
    refine bodyPost_ret (ret1S rfl rfl h9.box) rfl ?_
    exact ⟨_, _, _, rfl, Own.low (h9.own H6.out.pb.pn.own (by omega)) (by omega), h9.below _ _ (by omega) H6.out.pb.bel⟩
end Scr
end Go.Proofs.YtgdfiiikbnpagaaGreatDoor
end
