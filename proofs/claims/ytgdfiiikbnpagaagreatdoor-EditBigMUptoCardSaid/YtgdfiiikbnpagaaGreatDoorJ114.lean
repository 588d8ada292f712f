/- Joined texts: EdRefX. -/
import Derived.Test.YtgdfiiikbnpagaaGreatDoorJ112
import Derived.Deep.RegionLaw
import Derived.Deep.RegionHeld3
import Derived.Deep.CutRange
import Derived.Deep.DeepCutAuto
import Derived.BigRegion
import Derived.BigQuiet
section
/- The page's Edit: X. -/
namespace Go.Proofs.YtgdfiiikbnpagaaGreatDoor
set_option maxRecDepth 100000
open Go.RowKit
namespace Scr
open Go.Proofs.YtgdfiiikbnpagaaGreatDoor.Row Wid

set_option maxHeartbeats 6400000 in
theorem refEd_X (s : S) (x y z : Value) (n : Int) (w : World) (h : In w s x y z) (hok : Ok s) (hn : numB n = true) :
    Calls Tryz.prog 28 #[sv s x y z, .int .i64 88, .int .i64 n] w fun e w' => ∃ x' y' z', e = .returned (sv (editS s 88 n) x' y' z') ∧ Own w' w.heap.size (editS s 88 n) x' y' z' ∧ Below w.heap.size w w' := by
  have HI := Lib.hid h
  have HF := Lib.hid hok.facts
  have H0 := Lib.hid (Rz.start w s x y z)
  have HL := Lib.hid hok.lens
  have HOK := Lib.hid hok
  have HN := Lib.hid hn
  have HE : Hid (editS s 88 n = putG (noWrap s) (withRow (seenG s) s.cur.row.toNat (eraseL (lineS s) s.cur.col.toNat (min s.main.cols (s.cur.col + max 1 n)).toNat s.cur.a))) := Lib.hid (by
    have e : max n 1 = max 1 n := by omega
    show putG (noWrap s) (wipeN (atI s) (min (atI s + max n 1) (s.cur.row * s.main.cols + s.main.cols)) s.cur.a s.main.rows.toNat (seenG s)) = _
    rw [e, wipeX_same hok.facts (by omega)])
  have hwx : IntKind.i64.wrap (s.cur.col + max 1 n) = s.cur.col + max 1 n := by have := numB_iff.1 hn; have := hok.facts.col0; have := hok.facts.col1; have := hok.facts.c40; rw [IntKind.wrap_i64]; omega
  clear h hok
  go_enter Tryz.func28, Tryz.ntmps28
  go_wp2_with (first
    | (refine wp_allocS1 (w := w) rfl rfl ?_)
    | (refine wp_loadS (b := w.heap.size) (s := s) rfl rfl rfl H0.out.b0 ?_))
  refine (copyScreen_any s x y z _ (HI.out.kept H0.out.bel) HL.out).mono ?_; rintro e w1 ⟨x1, y1, z1, rfl, ho, hb⟩
  have H1 := Lib.hid (H0.out.kept hb)
  have HO1 := Lib.hid (ho.low H0.out.up)
  clear ho hb H0 HI
  go_wp2_with (refine wp_storeS_then (b := w.heap.size) (A := sarr s x1 y1 z1) (T := Pb w s x1 y1 z1) rfl rfl rfl rfl rfl HO1.out.in_.one H1.out.b0 rfl (fun _ k => Pb.start H1.out HO1.out k) ?_; intro w2 H2)
  refine (refSeenE s x1 y1 z1 w.heap.size w2 H2.out.pn.box).mono ?_; rintro e w2' ⟨rfl, rfl⟩
  have r7 : w2.cell? ⟨w.heap.size, 7, none⟩ = some (.int .i64 s.cur.row) := H2.out.pn.box.cell 7
  have r8 : w2.cell? ⟨w.heap.size, 8, none⟩ = some (.int .i64 s.cur.col) := H2.out.pn.box.cell 8
  have r9 : w2.cell? ⟨w.heap.size, 9, none⟩ = some (.bool s.cur.wrap) := H2.out.pn.box.cell 9
  have r10 : w2.cell? ⟨w.heap.size, 10, none⟩ = some (.int .i64 s.cur.a.fg) := H2.out.pn.box.cell 10
  have r11 : w2.cell? ⟨w.heap.size, 11, none⟩ = some (.int .i64 s.cur.a.bg) := H2.out.pn.box.cell 11
  have r12 : w2.cell? ⟨w.heap.size, 12, none⟩ = some (.int .i64 s.cur.a.flags) := H2.out.pn.box.cell 12
  have r13 : w2.cell? ⟨w.heap.size, 13, none⟩ = some (.int .i64 s.cur.g0) := H2.out.pn.box.cell 13
  have r14 : w2.cell? ⟨w.heap.size, 14, none⟩ = some (.int .i64 s.cur.g1) := H2.out.pn.box.cell 14
  have r15 : w2.cell? ⟨w.heap.size, 15, none⟩ = some (.int .i64 s.cur.shift) := H2.out.pn.box.cell 15
  have r16 : w2.cell? ⟨w.heap.size, 16, none⟩ = some (.bool s.cur.origin) := H2.out.pn.box.cell 16
  have H3 := Lib.hid (Pe.start H2.out)
  go_upto_region 5 with (fail)
  change Code.wp _ _ _ _ ((w2.alloc (pcbx s.cur)).alloc (pabx s.cur.a))
  clear r7 r8 r9 r10 r11 r12 r13 r14 r15 r16 H1 HO1 H2
  generalize (w2.alloc (pcbx s.cur)).alloc (pabx s.cur.a) = w3 at H3 ⊢
  generalize w2.heap.size + 1 = ba at H3 ⊢
  generalize w2.heap.size = bc at H3 ⊢
  obtain ⟨p, hp⟩ : ∃ p, seatO s = p := ⟨_, rfl⟩
  have HPP := Lib.hid hp
  have HP3 : Hid (p ≤ 3) := Lib.hid (by rw [← hp]; exact seatO_le s)
  rw [hp]
  clear hp
  have f9 : w3.frozen? ⟨w.heap.size, 9, none⟩ = false := H3.out.pb.pn.box.free 9
  have c9 : w3.cell? ⟨w.heap.size, 9, none⟩ = some (.bool s.cur.wrap) := H3.out.pb.pn.box.cell 9
  go_upto_region 7 with (fail)
  change Code.wp _ _ _ _ (w3.setCell ⟨w.heap.size, 9, none⟩ (.bool false))
  have H4 := Lib.hid H3.out.wrap
  clear f9 c9 H3
  generalize w3.setCell ⟨w.heap.size, 9, none⟩ (.bool false) = w4 at H4 ⊢
  obtain ⟨XX, hXX⟩ : ∃ X, seenX (noWrap s) x1 y1 = X := ⟨_, rfl⟩
  obtain ⟨AX, nX, cX, rfl⟩ : ∃ A n c, XX = .slice A n c := (by subst hXX; obtain ⟨A, c, e, _⟩ := H4.out.rm.2; exact ⟨A, _, c, e⟩)
  have HQ : Hid (∀ W, Pe w (noWrap s) x1 y1 z1 s.cur bc ba W → W.cell? ⟨bc, 0, none⟩ = some (.int .i64 s.cur.row) ∧ W.cell? ⟨bc, 1, none⟩ = some (.int .i64 s.cur.col) ∧ W.cell? ⟨ba, 0, none⟩ = some (.int .i64 s.cur.a.fg) ∧ W.cell? ⟨ba, 1, none⟩ = some (.int .i64 s.cur.a.bg) ∧ W.cell? ⟨ba, 2, none⟩ = some (.int .i64 s.cur.a.flags) ∧ W.cell? ⟨w.heap.size, 37, none⟩ = some (.int .i64 s.top) ∧ W.cell? ⟨w.heap.size, 38, none⟩ = some (.int .i64 s.bottom) ∧ W.cell? ⟨w.heap.size, p + 1, none⟩ = some (.int .i64 (seenG s).cols)) := Lib.hid fun W k => by
    have q := k.q
    have hg := q.g
    rw [show seatO (noWrap s) = p from HPP.out] at hg
    exact ⟨q.c0, q.c1, q.a0, q.a1, q.a2, q.t, q.m, hg⟩
  have HG : Hid (∀ W, Pe w (noWrap s) x1 y1 z1 s.cur bc ba W → W.cell? ⟨w.heap.size, p, none⟩ = some (.int .i64 (seenG s).rows) ∧ W.cell? ⟨w.heap.size, p + 1, none⟩ = some (.int .i64 (seenG s).cols) ∧ W.cell? ⟨w.heap.size, p + 2, none⟩ = some (.slice AX nX cX)) := Lib.hid fun W k => by
    have q := k.grid
    rw [hXX, show seatO (noWrap s) = p from HPP.out] at q
    exact q
  have HRM : Hid (∀ W, Pe w (noWrap s) x1 y1 z1 s.cur bc ba W → Rm W (.slice AX nX cX) (seenG s).cells) := Lib.hid fun W k => hXX ▸ k.rm
  have HPN : Hid (∀ W v G, Pe w (noWrap s) x1 y1 z1 s.cur bc ba W → OwnCs W (w.heap.size + 2) v G.cells → ∃ x' y', Pe w (putG (noWrap s) G) x' y' z1 s.cur bc ba (pput W w.heap.size p G.rows G.cols v)) := Lib.hid fun W v G k hv => by
    have q := k.seen hv
    rw [show seatO (noWrap s) = p from HPP.out] at q
    exact ⟨_, _, q⟩
  have HQ4 : Hid (∀ W G x' y', G.cols = (seenG s).cols → Pe w (putG (noWrap s) G) x' y' z1 s.cur bc ba W → W.cell? ⟨bc, 0, none⟩ = some (.int .i64 s.cur.row) ∧ W.cell? ⟨bc, 1, none⟩ = some (.int .i64 s.cur.col) ∧ W.cell? ⟨ba, 0, none⟩ = some (.int .i64 s.cur.a.fg) ∧ W.cell? ⟨ba, 1, none⟩ = some (.int .i64 s.cur.a.bg) ∧ W.cell? ⟨ba, 2, none⟩ = some (.int .i64 s.cur.a.flags) ∧ W.cell? ⟨w.heap.size, 37, none⟩ = some (.int .i64 s.top) ∧ W.cell? ⟨w.heap.size, 38, none⟩ = some (.int .i64 s.bottom) ∧ W.cell? ⟨w.heap.size, p + 1, none⟩ = some (.int .i64 (seenG s).cols)) := Lib.hid fun W G x' y' hc k => by
    have q := k.q
    have hg := q.g
    have ht := putG_tops (noWrap s) G
    rw [seatO_putG, show seatO (noWrap s) = p from HPP.out, seenG_putG, hc] at hg
    exact ⟨q.c0, q.c1, q.a0, q.a1, q.a2, by have := q.t; rw [ht.1] at this; exact this, by have := q.m; rw [ht.2] at this; exact this, hg⟩
  have HAT : Hid (∀ W, Pe w (noWrap s) x1 y1 z1 s.cur bc ba W → Calls Tryz.prog 52 #[.agg #[.int .i64 (seenG s).rows, .int .i64 (seenG s).cols, .slice AX nX cX], .int .i64 s.cur.row] W fun e w' => ∃ u, e = .returned u ∧ OwnCs w' W.heap.size u (lineS s) ∧ Below W.heap.size W w') := Lib.hid fun W k => by
    have q := refAtG_any (seenG s) (.slice AX nX cX) s.cur.row.toNat W HF.out.g (by have := HF.out.row0; have := HF.out.row1; have := HF.out.gr; omega) (HRM.out W k)
    rw [show ((s.cur.row.toNat : Nat) : Int) = s.cur.row by have := HF.out.row0; omega] at q
    exact q
  obtain ⟨m, hm⟩ : ∃ m, eraseL (lineS s) s.cur.col.toNat (min s.main.cols (s.cur.col + max 1 n)).toNat s.cur.a = m := ⟨_, rfl⟩
  have HMM := Lib.hid hm
  have HML : Hid (m.length = (seenG s).cols.toNat) := Lib.hid (by
    rw [← hm]
    have L := HOK.out.line
    rw [(erase_row (l := lineS s) (C := (seenG s).cols.toNat) L.ok L.len HF.out.a (lo := s.cur.col.toNat) (hi := (min s.main.cols (s.cur.col + max 1 n)).toNat) (by have := HF.out.col0; have := HF.out.col1; omega) (by have := L.cI; omega)).2])
  have HFN : Hid (∀ W v, Cs W v (lineS s) → Calls Tryz.prog 51 #[v, .int .i64 s.cur.col, .int .i64 (min (seenG s).cols (s.cur.col + max 1 n)), .agg #[.int .i64 s.cur.a.fg, .int .i64 s.cur.a.bg, .int .i64 s.cur.a.flags]] W fun e w' => ∃ u, e = .returned u ∧ OwnCs w' W.heap.size u m ∧ Below W.heap.size W w') := Lib.hid fun W v k => by
    have L := HOK.out.line
    have hN := numB_iff.1 HN.out
    have q := refErase_any (lineS s) s.cur.a s.cur.col.toNat (min s.main.cols (s.cur.col + max 1 n)).toNat v W k (by rw [L.len]; have := L.c40; omega) (by have := HF.out.col0; have := HF.out.col1; omega) (by rw [L.len]; have := L.cI; omega)
    rw [show ((s.cur.col.toNat : Nat) : Int) = s.cur.col by have := HF.out.col0; omega, show (((min s.main.cols (s.cur.col + max 1 n)).toNat : Nat) : Int) = min (seenG s).cols (s.cur.col + max 1 n) by have := HF.out.col0; have := HF.out.c1; have := HF.out.gc; omega] at q
    rw [← hm]
    exact q
  have HWT : Hid (∀ W v, Pe w (noWrap s) x1 y1 z1 s.cur bc ba W → Cs W v m → Calls Tryz.prog 50 #[.agg #[.int .i64 (seenG s).rows, .int .i64 (seenG s).cols, .slice AX nX cX], .int .i64 s.cur.row, v] W fun e w' => ∃ u, e = .returned (gridV (withRow (seenG s) s.cur.row.toNat m) u) ∧ OwnCs w' W.heap.size u (withRow (seenG s) s.cur.row.toNat m).cells ∧ Below W.heap.size W w') := Lib.hid fun W v k kv => by
    have q := refWithG_any (seenG s) (.slice AX nX cX) v m s.cur.row.toNat W HF.out.g (by have := HF.out.row0; have := HF.out.row1; have := HF.out.gr; omega) (HRM.out W k) kv HML.out
    rw [show ((s.cur.row.toNat : Nat) : Int) = s.cur.row by have := HF.out.row0; omega] at q
    exact q
  clear hm
  have q4 := HQ.out w4.drew (H4.out.kept (Below.refl _ _).drew)
  obtain ⟨g0, g1, g2⟩ := HG.out w4.drew (H4.out.kept (Below.refl _ _).drew)
  obtain ⟨qc0, qc1', qa0, qa1, qa2, qt, qm, qg⟩ := HQ.out w4 H4.out
  go_upto_region 27 with (fail)
  go_cut [15] from 114 to 119 (fun s15 wx => ∃ A5 c5, s15 = .slice A5 (lineS s).length c5 ∧ Hid (Pe w (noWrap s) x1 y1 z1 s.cur bc ba wx) ∧ Hid (Cs wx (.slice A5 (lineS s).length c5) (lineS s)))
  case first =>
    obtain ⟨p0, p1, pa0, pa1, pa2, pt, pm, pg⟩ := q4
    go_region_law ((go_simp; go_at_call 52; refine (HAT.out w4.drew (H4.out.kept (Below.refl _ _).drew)).mono ?_; rintro e w5 ⟨v, rfl, ho, hb⟩; have H5 := Lib.hid (H4.out.kept ((Below.refl _ _).drew.trans hb)); obtain ⟨A5, c5, rfl, _⟩ := ho.cs.form; have HV5 := Lib.hid ho.cs; clear ho hb))
    all_goals
      go_wp2_with fail
      go_meet
      exact ⟨_, _, rfl, H5, HV5⟩
  case rest =>
  obtain ⟨A5, c5, rfl, H5, HV5⟩ := hcut
  rename World => w5
  clear q4 g0 g1 g2 qc0 qc1' qa0 qa1 qa2 qt qm qg H4
  go_upto_region 28 with (fail)
  go_cut [16] from 120 to 131 (fun s16 wx => ∃ b16, s16 = .bool b16 ∧ Hid (Pe w (noWrap s) x1 y1 z1 s.cur bc ba wx) ∧ Hid (Cs wx (.slice A5 (lineS s).length c5) (lineS s)))
  case first =>
    obtain ⟨qc0, qc1', qa0, qa1, qa2, qt, qm, qg⟩ := HQ.out w5 H5.out
    by_cases hc : s.top ≤ s.cur.row
    · have hd : decide (s.top ≤ s.cur.row) = true := decide_eq_true hc
      go_wp2_with fail
      go_meet
      exact ⟨_, rfl, H5, HV5⟩
    · have hd : decide (s.top ≤ s.cur.row) = false := decide_eq_false hc
      go_wp2_with fail
      go_meet
      exact ⟨_, rfl, H5, HV5⟩
  case rest =>
  obtain ⟨b16, rfl, H6, HV6⟩ := hcut
  rename World => w6
  clear H5 HV5
  have q6 := HQ.out w6 H6.out
  obtain ⟨g0, g1, g2⟩ := HG.out w6 H6.out
  have q4 := HQ.out w6.drew (H6.out.kept (Below.refl _ _).drew)
  obtain ⟨u0, u1, u2⟩ := HG.out w6.drew (H6.out.kept (Below.refl _ _).drew)
  go_upto_region 31 with (fail)
  refine wp_region_held_drew (S := fun w' => w'.cell? ⟨bc, 0, none⟩ = some (.int .i64 s.cur.row) ∧ w'.cell? ⟨bc, 1, none⟩ = some (.int .i64 s.cur.col) ∧ w'.cell? ⟨ba, 0, none⟩ = some (.int .i64 s.cur.a.fg) ∧ w'.cell? ⟨ba, 1, none⟩ = some (.int .i64 s.cur.a.bg) ∧ w'.cell? ⟨ba, 2, none⟩ = some (.int .i64 s.cur.a.flags) ∧ w'.cell? ⟨w.heap.size, 37, none⟩ = some (.int .i64 s.top) ∧ w'.cell? ⟨w.heap.size, 38, none⟩ = some (.int .i64 s.bottom) ∧ w'.cell? ⟨w.heap.size, p + 1, none⟩ = some (.int .i64 (seenG s).cols)) (by kernel_rfl) q4 (fun hHeld => ?_)
  refine wpAnyH_take (i := 0) (v := ?_) rfl (by kernel_rfl) (by kernel_rfl) (by kernel_rfl) (fun _ _ _ h => h) (Or.inl ⟨by rfl, ?_⟩) (by assumption) ?_
  rotate_left
  · intro w' hSw; first | (go_simp; done) | (go_simp; with_reducible rfl)
  simp only [Act.put, List.getElem_toArray, List.getElem_cons_zero, List.setIfInBounds_toArray, List.set_cons_zero, List.set_cons_succ]
  refine wpAnyH_take (i := 1) (v := ?_) rfl (by kernel_rfl) (by kernel_rfl) (by kernel_rfl) (fun _ _ _ h => h) (Or.inl ⟨by rfl, ?_⟩) (by assumption) ?_
  rotate_left
  · intro w' hSw; first | (go_simp; done) | (go_simp; with_reducible rfl)
  simp only [Act.put, List.getElem_toArray, List.getElem_cons_zero, List.getElem_cons_succ, List.setIfInBounds_toArray, List.set_cons_zero, List.set_cons_succ]
  refine wpAnyH_take (i := 2) (v := ?_) rfl (by kernel_rfl) (by kernel_rfl) (by kernel_rfl) (fun _ _ _ h => h) (Or.inl ⟨by rfl, ?_⟩) (by assumption) ?_
  rotate_left
  · intro w' hSw; first | (go_simp; done) | (go_simp; with_reducible rfl)
  simp only [Act.put, List.getElem_toArray, List.getElem_cons_zero, List.getElem_cons_succ, List.setIfInBounds_toArray, List.set_cons_zero, List.set_cons_succ]
  refine wpAnyH_take (i := 4) (v := ?_) rfl (by kernel_rfl) (by kernel_rfl) (by kernel_rfl) (fun _ _ _ h => h) (Or.inl ⟨by rfl, ?_⟩) (by assumption) ?_
  rotate_left
  · intro w' hSw; first | (go_simp; done) | (go_simp; with_reducible rfl)
  simp only [Act.put, List.getElem_toArray, List.getElem_cons_zero, List.getElem_cons_succ, List.setIfInBounds_toArray, List.set_cons_zero, List.set_cons_succ]
  refine wpAnyH_take (i := 5) (v := ?_) rfl (by kernel_rfl) (by kernel_rfl) (by kernel_rfl) (fun _ _ _ h => h) (Or.inl ⟨by rfl, ?_⟩) (by assumption) ?_
  rotate_left
  · intro w' hSw; first | (go_simp; done) | (go_simp; with_reducible rfl)
  simp only [Act.put, List.getElem_toArray, List.getElem_cons_zero, List.getElem_cons_succ, List.setIfInBounds_toArray, List.set_cons_zero, List.set_cons_succ]
  refine wpAnyH_take (i := 6) (v := ?_) rfl (by kernel_rfl) (by kernel_rfl) (by kernel_rfl) (fun _ _ _ h => h) (Or.inl ⟨by rfl, ?_⟩) (by assumption) ?_
  rotate_left
  · intro w' hSw; first | (go_simp; done) | (go_simp; with_reducible rfl)
  simp only [Act.put, List.getElem_toArray, List.getElem_cons_zero, List.getElem_cons_succ, List.setIfInBounds_toArray, List.set_cons_zero, List.set_cons_succ]
  refine wpAnyH_take (i := 7) (v := ?_) rfl (by kernel_rfl) (by kernel_rfl) (by kernel_rfl) (fun _ _ _ h => h) (Or.inl ⟨by rfl, ?_⟩) (by assumption) ?_
  rotate_left
  · intro w' hSw; first | (go_simp; done) | (go_simp; with_reducible rfl)
  simp only [Act.put, List.getElem_toArray, List.getElem_cons_zero, List.getElem_cons_succ, List.setIfInBounds_toArray, List.set_cons_zero, List.set_cons_succ]
  refine wpAnyH_take (i := 8) (v := ?_) rfl (by kernel_rfl) (by kernel_rfl) (by kernel_rfl) (fun _ _ _ h => h) (Or.inl ⟨by rfl, ?_⟩) (by assumption) ?_
  rotate_left
  · intro w' hSw; first | (go_simp; done) | (go_simp; with_reducible rfl)
  simp only [Act.put, List.getElem_toArray, List.getElem_cons_zero, List.getElem_cons_succ, List.setIfInBounds_toArray, List.set_cons_zero, List.set_cons_succ]
  refine wpAnyH_take (i := 9) (v := ?_) rfl (by kernel_rfl) (by kernel_rfl) (by kernel_rfl) (fun _ _ _ h => h) (Or.inl ⟨by rfl, ?_⟩) (by assumption) ?_
  rotate_left
  · intro w' hSw; first | (go_simp; done) | (go_simp; with_reducible rfl)
  simp only [Act.put, List.getElem_toArray, List.getElem_cons_zero, List.getElem_cons_succ, List.setIfInBounds_toArray, List.set_cons_zero, List.set_cons_succ]
  refine wpAnyH_take (i := 10) (v := ?_) rfl (by kernel_rfl) (by kernel_rfl) (by kernel_rfl) (fun _ _ _ h => h) (Or.inl ⟨by rfl, ?_⟩) (by assumption) ?_
  rotate_left
  · intro w' hSw; first | (go_simp; done) | (go_simp; with_reducible rfl)
  simp only [Act.put, List.getElem_toArray, List.getElem_cons_zero, List.getElem_cons_succ, List.setIfInBounds_toArray, List.set_cons_zero, List.set_cons_succ]
  refine wpAnyH_take (i := 11) (v := ?_) rfl (by kernel_rfl) (by kernel_rfl) (by kernel_rfl) (fun _ _ _ h => h) (Or.inl ⟨by rfl, ?_⟩) (by assumption) ?_
  rotate_left
  · intro w' hSw; first | (go_simp; done) | (go_simp; with_reducible rfl)
  simp only [Act.put, List.getElem_toArray, List.getElem_cons_zero, List.getElem_cons_succ, List.setIfInBounds_toArray, List.set_cons_zero, List.set_cons_succ]
  refine wpAnyH_take (i := 12) (v := ?_) rfl (by kernel_rfl) (by kernel_rfl) (by kernel_rfl) (fun _ _ _ h => h) (Or.inl ⟨by rfl, ?_⟩) (by assumption) ?_
  rotate_left
  · intro w' hSw; first | (go_simp; done) | (go_simp; with_reducible rfl)
  simp only [Act.put, List.getElem_toArray, List.getElem_cons_zero, List.getElem_cons_succ, List.setIfInBounds_toArray, List.set_cons_zero, List.set_cons_succ]
  refine wpAnyH_take (i := 13) (v := ?_) rfl (by kernel_rfl) (by kernel_rfl) (by kernel_rfl) (fun _ _ _ h => h) (Or.inl ⟨by rfl, ?_⟩) (by assumption) ?_
  rotate_left
  · intro w' hSw; first | (go_simp; done) | (go_simp; with_reducible rfl)
  simp only [Act.put, List.getElem_toArray, List.getElem_cons_zero, List.getElem_cons_succ, List.setIfInBounds_toArray, List.set_cons_zero, List.set_cons_succ]
  refine wpAnyH_take (i := 14) (v := ?_) rfl (by kernel_rfl) (by kernel_rfl) (by kernel_rfl) (fun _ _ _ h => h) (Or.inl ⟨by rfl, ?_⟩) (by assumption) ?_
  rotate_left
  · intro w' hSw; first | (go_simp; done) | (go_simp; with_reducible rfl)
  simp only [Act.put, List.getElem_toArray, List.getElem_cons_zero, List.getElem_cons_succ, List.setIfInBounds_toArray, List.set_cons_zero, List.set_cons_succ]
  refine wpAnyH_take (i := 15) (v := ?_) rfl (by kernel_rfl) (by kernel_rfl) (by kernel_rfl) (fun _ _ _ h => h) (Or.inl ⟨by rfl, ?_⟩) (by assumption) ?_
  rotate_left
  · intro w' hSw; first | (go_simp; done) | (go_simp; with_reducible rfl)
  simp only [Act.put, List.getElem_toArray, List.getElem_cons_zero, List.getElem_cons_succ, List.setIfInBounds_toArray, List.set_cons_zero, List.set_cons_succ]
  refine wpAnyH_take (i := 16) (v := ?_) rfl (by kernel_rfl) (by kernel_rfl) (by kernel_rfl) (fun _ _ _ h => h) (Or.inl ⟨by rfl, ?_⟩) (by assumption) ?_
  rotate_left
  · intro w' hSw; first | (go_simp; done) | (go_simp; with_reducible rfl)
  simp only [Act.put, List.getElem_toArray, List.getElem_cons_zero, List.getElem_cons_succ, List.setIfInBounds_toArray, List.set_cons_zero, List.set_cons_succ]
  refine wpAnyH_take (i := 17) (v := ?_) rfl (by kernel_rfl) (by kernel_rfl) (by kernel_rfl) (fun _ _ _ h => h) (Or.inl ⟨by rfl, ?_⟩) (by assumption) ?_
  rotate_left
  · intro w' hSw; first | (go_simp; done) | (go_simp; with_reducible rfl)
  simp only [Act.put, List.getElem_toArray, List.getElem_cons_zero, List.getElem_cons_succ, List.setIfInBounds_toArray, List.set_cons_zero, List.set_cons_succ]
  refine wpAnyH_take (i := 18) (v := ?_) rfl (by kernel_rfl) (by kernel_rfl) (by kernel_rfl) (fun _ _ _ h => h) (Or.inl ⟨by rfl, ?_⟩) (by assumption) ?_
  rotate_left
  · intro w' hSw; first | (go_simp; done) | (go_simp; with_reducible rfl)
  simp only [Act.put, List.getElem_toArray, List.getElem_cons_zero, List.getElem_cons_succ, List.setIfInBounds_toArray, List.set_cons_zero, List.set_cons_succ]
  refine wpAnyH_ready (rs := [3, 19]) (by kernel_rfl) (by simp) ?_
  refine AllReadyH.cons rfl (fun K hK => ?_) ?_
  · go_simp
    refine hK.out _ _ q4 (fun hHeld => ?_)
    clear hK K
    refine wpAnyH_ready (rs := [19]) (by kernel_rfl) (by simp) ?_
    refine AllReadyH.cons rfl (fun K hK => ?_) ?_
    · go_simp
      go_at_call 51
      refine (HFN.out w6.drew (.slice A5 (lineS s).length c5) (HV6.out.kept (Below.refl _ _).drew)).mono ?_; rintro e w7 ⟨v7, rfl, ho, hb⟩
      have H7 := Lib.hid (H6.out.kept ((Below.refl _ _).drew.trans hb))
      obtain ⟨A7, c7, rfl, _⟩ := ho.cs.form
      have HV7 := Lib.hid ho.cs
      have qc1 := HQ.out w7 H7.out
      obtain ⟨v0, v1, v2⟩ := HG.out w7 H7.out
      clear ho hb
      refine hK.out _ _ qc1 (fun hHeld => ?_)
      clear hK K
      refine wpAnyH_ready (rs := [20]) (by kernel_rfl) (by simp) ?_
      refine AllReadyH.cons rfl (fun K hK => ?_) ?_
      · go_simp
        go_at_call 50
        refine (HWT.out w7 _ H7.out HV7.out).mono ?_; rintro e w8 ⟨v8, rfl, ho, hb⟩
        obtain ⟨A', n', c', rfl⟩ : ∃ A n c, v8 = .slice A n c := (by obtain ⟨A, c, e, _⟩ := ho.rm.2; exact ⟨A, _, c, e⟩)
        have H8 := Lib.hid (H7.out.kept hb)
        obtain ⟨x9, y9, h9'⟩ := HPN.out w8 _ (withRow (seenG s) s.cur.row.toNat m) H8.out (ho.low H7.out.pb.pn.up)
        have H9 := Lib.hid h9'
        have qc2 := HQ.out w8 H8.out
        obtain ⟨r0, r1, r2⟩ := HG.out w8 H8.out
        have q8 := HQ4.out _ (withRow (seenG s) s.cur.row.toNat m) _ _ rfl H9.out
        have f2 : ∀ j, w8.frozen? ⟨w.heap.size, j, none⟩ = false := H8.out.pb.pn.box.free
        clear ho hb h9'
        refine hK.out _ _ qc2 (fun hHeld => ?_)
        clear hK K
        refine wpAnyH_take (i := 21) (v := ?_) rfl (by kernel_rfl) (by kernel_rfl) (by kernel_rfl) (fun _ _ _ h => h) (Or.inl ⟨by rfl, ?_⟩) (by assumption) ?_
        rotate_left
        · intro w' hSw; first | (go_simp; done) | (go_simp; with_reducible rfl)
        simp only [Act.put, List.getElem_toArray, List.getElem_cons_zero, List.getElem_cons_succ, List.setIfInBounds_toArray, List.set_cons_zero, List.set_cons_succ]
        refine wpAnyH_ready (rs := [22]) (by kernel_rfl) (by simp) ?_
        refine AllReadyH.cons rfl (fun K hK => ?_) ?_
        · go_simp
          refine hK.out _ _ q8 (fun hHeld => ?_)
          clear hK K
          refine wpAnyH_done (by kernel_rfl) ?_ _
          show Exit.inBlock _ _ _ _ (pput w8 w.heap.size p (withRow (seenG s) s.cur.row.toNat m).rows (withRow (seenG s) s.cur.row.toNat m).cols (.slice A' n' c'))
          clear r0 r1 r2 v0 v1 v2 u0 u1 u2 g0 g1 g2 q4 q6 q8 qc1 qc2 f2 hHeld HPN HQ HG HQ4 HRM HAT HFN HWT H6 H7 H8 HV6 HV7
          generalize pput w8 w.heap.size p (withRow (seenG s) s.cur.row.toNat m).rows (withRow (seenG s) s.cur.row.toNat m).cols (.slice A' n' c') = wz at H9 ⊢
          go_wp2_with (first
            | (refine wp_loadS (b := w.heap.size) (s := putG (noWrap s) (withRow (seenG s) s.cur.row.toNat m)) rfl rfl rfl H9.out.pb.pn.box ?_)
            | (refine wp_storeS (b := w.heap.size + 1) rfl rfl rfl rfl rfl H9.out.pb.pn.own.in_.one H9.out.pb.b1 rfl ?_; intro w9 h9))
          refine bodyPost_ret (ret1S rfl rfl h9.box) rfl ?_
          rw [HE.out, HMM.out]
          exact ⟨_, _, _, rfl, Own.low (h9.own H9.out.pb.pn.own (by omega)) (by omega), h9.below _ _ (by omega) H9.out.pb.bel⟩
        exact AllReadyH.nil
      exact AllReadyH.nil
    exact AllReadyH.nil
  refine AllReadyH.cons rfl (fun K hK => ?_) ?_
  · go_simp
    go_at_call 51
    refine (HFN.out w6.drew (.slice A5 (lineS s).length c5) (HV6.out.kept (Below.refl _ _).drew)).mono ?_; rintro e w7 ⟨v7, rfl, ho, hb⟩
    have H7 := Lib.hid (H6.out.kept ((Below.refl _ _).drew.trans hb))
    obtain ⟨A7, c7, rfl, _⟩ := ho.cs.form
    have HV7 := Lib.hid ho.cs
    have qc1 := HQ.out w7 H7.out
    obtain ⟨v0, v1, v2⟩ := HG.out w7 H7.out
    clear ho hb
    refine hK.out _ _ qc1 (fun hHeld => ?_)
    clear hK K
    refine wpAnyH_ready (rs := [3]) (by kernel_rfl) (by simp) ?_
    refine AllReadyH.cons rfl (fun K hK => ?_) ?_
    · go_simp
      refine hK.out _ _ qc1 (fun hHeld => ?_)
      clear hK K
      refine wpAnyH_ready (rs := [20]) (by kernel_rfl) (by simp) ?_
      refine AllReadyH.cons rfl (fun K hK => ?_) ?_
      · go_simp
        go_at_call 50
        refine (HWT.out w7 _ H7.out HV7.out).mono ?_; rintro e w8 ⟨v8, rfl, ho, hb⟩
        obtain ⟨A', n', c', rfl⟩ : ∃ A n c, v8 = .slice A n c := (by obtain ⟨A, c, e, _⟩ := ho.rm.2; exact ⟨A, _, c, e⟩)
        have H8 := Lib.hid (H7.out.kept hb)
        obtain ⟨x9, y9, h9'⟩ := HPN.out w8 _ (withRow (seenG s) s.cur.row.toNat m) H8.out (ho.low H7.out.pb.pn.up)
        have H9 := Lib.hid h9'
        have qc2 := HQ.out w8 H8.out
        obtain ⟨r0, r1, r2⟩ := HG.out w8 H8.out
        have q8 := HQ4.out _ (withRow (seenG s) s.cur.row.toNat m) _ _ rfl H9.out
        have f2 : ∀ j, w8.frozen? ⟨w.heap.size, j, none⟩ = false := H8.out.pb.pn.box.free
        clear ho hb h9'
        refine hK.out _ _ qc2 (fun hHeld => ?_)
        clear hK K
        refine wpAnyH_take (i := 21) (v := ?_) rfl (by kernel_rfl) (by kernel_rfl) (by kernel_rfl) (fun _ _ _ h => h) (Or.inl ⟨by rfl, ?_⟩) (by assumption) ?_
        rotate_left
        · intro w' hSw; first | (go_simp; done) | (go_simp; with_reducible rfl)
        simp only [Act.put, List.getElem_toArray, List.getElem_cons_zero, List.getElem_cons_succ, List.setIfInBounds_toArray, List.set_cons_zero, List.set_cons_succ]
        refine wpAnyH_ready (rs := [22]) (by kernel_rfl) (by simp) ?_
        refine AllReadyH.cons rfl (fun K hK => ?_) ?_
        · go_simp
          refine hK.out _ _ q8 (fun hHeld => ?_)
          clear hK K
          refine wpAnyH_done (by kernel_rfl) ?_ _
          show Exit.inBlock _ _ _ _ (pput w8 w.heap.size p (withRow (seenG s) s.cur.row.toNat m).rows (withRow (seenG s) s.cur.row.toNat m).cols (.slice A' n' c'))
          clear r0 r1 r2 v0 v1 v2 u0 u1 u2 g0 g1 g2 q4 q6 q8 qc1 qc2 f2 hHeld HPN HQ HG HQ4 HRM HAT HFN HWT H6 H7 H8 HV6 HV7
          generalize pput w8 w.heap.size p (withRow (seenG s) s.cur.row.toNat m).rows (withRow (seenG s) s.cur.row.toNat m).cols (.slice A' n' c') = wz at H9 ⊢
          go_wp2_with (first
            | (refine wp_loadS (b := w.heap.size) (s := putG (noWrap s) (withRow (seenG s) s.cur.row.toNat m)) rfl rfl rfl H9.out.pb.pn.box ?_)
            | (refine wp_storeS (b := w.heap.size + 1) rfl rfl rfl rfl rfl H9.out.pb.pn.own.in_.one H9.out.pb.b1 rfl ?_; intro w9 h9))
          refine bodyPost_ret (ret1S rfl rfl h9.box) rfl ?_
          rw [HE.out, HMM.out]
          exact ⟨_, _, _, rfl, Own.low (h9.own H9.out.pb.pn.own (by omega)) (by omega), h9.below _ _ (by omega) H9.out.pb.bel⟩
        exact AllReadyH.nil
      exact AllReadyH.nil
    exact AllReadyH.nil
  exact AllReadyH.nil
end Scr
end Go.Proofs.YtgdfiiikbnpagaaGreatDoor
end
