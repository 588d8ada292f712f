/- Joined texts: PrnRefP, EdWakes. -/
import Derived.Test.YtceaoadlhdgnmaaGreatDoorMRestS
import Derived.Test.YtceaoadlhdgnmaaGreatDoorM110
import Derived.Deep.RegionLaw
import Derived.Deep.RegionHeld3
import Derived.Deep.CutRange
import Derived.Deep.DeepCutAuto
import Derived.BigRegion
import Derived.BigQuiet
namespace Go.Proofs.YtceaoadlhdgnmaaGreatDoor
set_option maxRecDepth 100000
section
open Go.RowKit
namespace Scr
open Go.Proofs.YtceaoadlhdgnmaaGreatDoor.Row Wid
def atPlace' (s : S) (c : Int) : S := { s with cur := { s.cur with col := c } }
def oneS (s : S) (r : Int) : S := passed (withLine (noWrap s) (mid (lineS s) s.cur.col.toNat (s.cur.col.toNat + 1) (cellsOf r s.cur.a))) (s.cur.col + 1) false r
set_option maxHeartbeats 6400000 in
theorem refPrint_one (s : S) (x y z : Value) (r : Int) (w : World) (h : In w s x y z) (hok : Ok s) (hwr : s.cur.wrap = false) (hsh : s.cur.shift = 0) (hg0 : s.cur.g0 = 0) (hr : wid r = 1) (hmd : (bits .and .i64 s.modes 2 == 0) = true) (hcol : s.cur.col + 1 < s.main.cols) :
    Calls Tryz.prog 35 #[sv s x y z, .int .i64 r] w fun e w' => ∃ x' y' z', e = .returned (sv (oneS s r) x' y' z') ∧ Own w' w.heap.size (oneS s r) x' y' z' ∧ Below w.heap.size w w' := by
  have HI := Lib.hid h
  have HF := Lib.hid hok.facts
  have H0 := Lib.hid (Rz.start w s x y z)
  have HL := Lib.hid hok.lens
  have HOK := Lib.hid hok
  have HWD := Lib.hid (fun W => width_any r W)
  have HR1 := Lib.hid hr
  rw [hr] at HWD
  have hwc : IntKind.i64.wrap (s.cur.col + 1) = s.cur.col + 1 := by have := hok.facts.col0; have := hok.facts.col1; have := hok.facts.c40; rw [IntKind.wrap_i64]; omega
  have hdc : decide (s.main.cols ≤ s.cur.col + 1) = false := decide_eq_false (by omega)
  have HCL := Lib.hid hcol
  clear h hok hr hcol
  go_enter Tryz.func35, Tryz.ntmps35
  go_wp2_with (first
    | (refine wp_allocS1 (w := w) rfl rfl ?_)
    | (refine wp_loadS (b := w.heap.size) (s := s) rfl rfl rfl H0.out.b0 ?_))
  refine (copyScreen_any s x y z _ (HI.out.kept H0.out.bel) HL.out).mono ?_; rintro e w1 ⟨x1, y1, z1, rfl, ho, hb⟩
  have H1 := Lib.hid (H0.out.kept hb)
  have HO1 := Lib.hid (ho.low H0.out.up)
  clear ho hb H0 HI
  have HCX : Hid (∀ W, Pb w s x1 y1 z1 W → W.cell? ⟨w.heap.size, 1, none⟩ = some (.int .i64 s.main.cols) ∧ W.cell? ⟨w.heap.size, 8, none⟩ = some (.int .i64 s.cur.col) ∧ W.cell? ⟨w.heap.size, 9, none⟩ = some (.bool false) ∧ W.cell? ⟨w.heap.size, 13, none⟩ = some (.int .i64 0) ∧ W.cell? ⟨w.heap.size, 15, none⟩ = some (.int .i64 0) ∧ W.cell? ⟨w.heap.size, 40, none⟩ = some (.int .i64 s.modes)) := Lib.hid fun W k =>
    ⟨k.pn.box.cell 1, k.pn.box.cell 8, by have q := k.pn.box.cell 9; rw [← hwr]; exact q, by have q := k.pn.box.cell 13; rw [← hg0]; exact q, by have q := k.pn.box.cell 15; rw [← hsh]; exact q, k.pn.box.cell 40⟩
  go_wp2_with (refine wp_storeS_then (b := w.heap.size) (A := sarr s x1 y1 z1) (T := Pb w s x1 y1 z1) rfl rfl rfl rfl rfl HO1.out.in_.one H1.out.b0 rfl (fun _ k => Pb.start H1.out HO1.out k) ?_; intro w2 H2; obtain ⟨b1, b8, b9, b13, b15, b40⟩ := HCX.out w2 H2.out)
  refine (HWD.out w2).mono ?_; rintro e w3 ⟨rfl, hb⟩
  have H3 := Lib.hid (H2.out.kept hb)
  clear hb b1 b8 b9 b13 b15 b40 H2 H1 HO1 HWD
  obtain ⟨b1, b8, b9, b13, b15, b40⟩ := HCX.out w3 H3.out
  have f9 : w3.frozen? ⟨w.heap.size, 9, none⟩ = false := H3.out.pn.box.free 9
  go_upto_region 30 with (fail)
  change Code.wp _ _ _ _ (w3.setCell ⟨w.heap.size, 9, none⟩ (.bool false))
  have H4 := Lib.hid H3.out.wrap
  clear b1 b8 b9 b13 b15 b40 f9 H3
  generalize w3.setCell ⟨w.heap.size, 9, none⟩ (.bool false) = w4 at H4 ⊢
  go_wp2_with fail
  refine (refSeenE (noWrap s) x1 y1 z1 w.heap.size w4 H4.out.pn.box).mono ?_; rintro e w4' ⟨rfl, rfl⟩
  obtain ⟨p, hp⟩ : ∃ p, seatO (noWrap s) = p := ⟨_, rfl⟩
  have HPP := Lib.hid hp
  have HP3 : Hid (p ≤ 3) := Lib.hid (by rw [← hp]; exact seatO_le _)
  rw [hp]
  clear hp
  obtain ⟨XX, hXX⟩ : ∃ X, seenX (noWrap s) x1 y1 = X := ⟨_, rfl⟩
  obtain ⟨AX, nX, cX, rfl⟩ : ∃ A n c, XX = .slice A n c := (by subst hXX; obtain ⟨A, c, e, _⟩ := (seenX_rm H4.out.pn.own.in_).2; exact ⟨A, _, c, e⟩)
  have HQ : Hid (∀ W, Pb w (noWrap s) x1 y1 z1 W → W.cell? ⟨w.heap.size, 7, none⟩ = some (.int .i64 s.cur.row) ∧ W.cell? ⟨w.heap.size, 8, none⟩ = some (.int .i64 s.cur.col) ∧ W.cell? ⟨w.heap.size, 10, none⟩ = some (.int .i64 s.cur.a.fg) ∧ W.cell? ⟨w.heap.size, 11, none⟩ = some (.int .i64 s.cur.a.bg) ∧ W.cell? ⟨w.heap.size, 12, none⟩ = some (.int .i64 s.cur.a.flags)) := Lib.hid fun W k => ⟨k.pn.box.cell 7, k.pn.box.cell 8, k.pn.box.cell 10, k.pn.box.cell 11, k.pn.box.cell 12⟩
  have HG : Hid (∀ W, Pb w (noWrap s) x1 y1 z1 W → W.cell? ⟨w.heap.size, p, none⟩ = some (.int .i64 (seenG s).rows) ∧ W.cell? ⟨w.heap.size, p + 1, none⟩ = some (.int .i64 (seenG s).cols) ∧ W.cell? ⟨w.heap.size, p + 2, none⟩ = some (.slice AX nX cX)) := Lib.hid fun W k => by
    have q := seat_arr (noWrap s) x1 y1 z1
    rw [hXX, HPP.out] at q
    exact ⟨by rw [k.pn.box.cell]; exact q.1, by rw [k.pn.box.cell]; exact q.2.1, by rw [k.pn.box.cell]; exact q.2.2⟩
  have HRM : Hid (∀ W, Pb w (noWrap s) x1 y1 z1 W → Rm W (.slice AX nX cX) (seenG s).cells) := Lib.hid fun W k => hXX ▸ seenX_rm k.pn.own.in_
  have HPN : Hid (∀ W v G, Pb w (noWrap s) x1 y1 z1 W → OwnCs W (w.heap.size + 2) v G.cells → ∃ x' y', Pb w (putG (noWrap s) G) x' y' z1 (pput W w.heap.size p G.rows G.cols v)) := Lib.hid fun W v G k hv => by
    have q := k.seenE hv
    rw [HPP.out] at q
    exact ⟨_, _, q⟩
  have HQ4 : Hid (∀ W G x' y', Pb w (putG (noWrap s) G) x' y' z1 W → W.cell? ⟨w.heap.size, 7, none⟩ = some (.int .i64 s.cur.row) ∧ W.cell? ⟨w.heap.size, 8, none⟩ = some (.int .i64 s.cur.col) ∧ W.cell? ⟨w.heap.size, 10, none⟩ = some (.int .i64 s.cur.a.fg) ∧ W.cell? ⟨w.heap.size, 11, none⟩ = some (.int .i64 s.cur.a.bg) ∧ W.cell? ⟨w.heap.size, 12, none⟩ = some (.int .i64 s.cur.a.flags)) := Lib.hid fun W G x' y' k => by
    have e := putG_wrap (noWrap s) G
    have q7 := k.pn.box.cell 7; have q8 := k.pn.box.cell 8; have q10 := k.pn.box.cell 10; have q11 := k.pn.box.cell 11; have q12 := k.pn.box.cell 12
    rw [sarr_7, e] at q7
    rw [sarr_8, e] at q8
    rw [sarr_10, e] at q10
    rw [sarr_11, e] at q11
    rw [sarr_12, e] at q12
    exact ⟨q7, q8, q10, q11, q12⟩
  have hrow : ((s.cur.row.toNat : Nat) : Int) = s.cur.row := by have := HF.out.row0; omega
  have hcl : ((s.cur.col.toNat : Nat) : Int) = s.cur.col := by have := HF.out.col0; omega
  have HAT : Hid (∀ W, Pb w (noWrap s) x1 y1 z1 W → Calls Tryz.prog 88 #[.agg #[.int .i64 (seenG s).rows, .int .i64 (seenG s).cols, .slice AX nX cX], .int .i64 s.cur.row] W fun e w' => ∃ u, e = .returned u ∧ OwnCs w' W.heap.size u (lineS s) ∧ Below W.heap.size W w') := Lib.hid fun W k => by
    have q := refAtG_any (seenG s) (.slice AX nX cX) s.cur.row.toNat W HF.out.g (by have := HF.out.row0; have := HF.out.row1; have := HF.out.gr; omega) (HRM.out W k)
    rw [hrow] at q
    exact q
  obtain ⟨m, hm⟩ : ∃ m, mid (lineS s) s.cur.col.toNat (s.cur.col.toNat + 1) (cellsOf r s.cur.a) = m := ⟨_, rfl⟩
  have HMM := Lib.hid hm
  have L := Lib.hid HOK.out.line
  have h12 : wid r = 1 ∨ wid r = 2 := .inl HR1.out
  have hcells : (cellsOf r s.cur.a).length = 1 := by have := cells_length (a := s.cur.a) h12; have := HR1.out; omega
  have hfit : s.cur.col.toNat + 1 ≤ (lineS s).length := by rw [L.out.len]; have := L.out.cI; have := HCL.out; omega
  have HML : Hid (m.length = (seenG s).cols.toNat) := Lib.hid (by
    rw [← hm]
    rw [(mid_row (k := s.cur.col.toNat) (n := 1) L.out.ok hfit (good_cells h12 HF.out.a) hcells).2, L.out.len])
  have HFN : Hid (∀ W v, Cs W v (lineS s) → Calls Tryz.prog 91 #[v, .int .i64 s.cur.col, .int .i64 r, .agg #[.int .i64 s.cur.a.fg, .int .i64 s.cur.a.bg, .int .i64 s.cur.a.flags]] W fun e w' => ∃ u, e = .returned u ∧ OwnCs w' W.heap.size u m ∧ Below W.heap.size W w') := Lib.hid fun W v k => by
    have q := refPut_any (lineS s) s.cur.a s.cur.col.toNat 1 r v W k (by rw [L.out.len]; have := L.out.c40; omega) HR1.out (by omega) hfit
    rw [hcl] at q
    try rw [putL_mid HR1.out (by omega) hfit] at q
    rw [← hm]
    exact q
  have HWT : Hid (∀ W v, Pb w (noWrap s) x1 y1 z1 W → Cs W v m → Calls Tryz.prog 86 #[.agg #[.int .i64 (seenG s).rows, .int .i64 (seenG s).cols, .slice AX nX cX], .int .i64 s.cur.row, v] W fun e w' => ∃ u, e = .returned (gridV (withRow (seenG s) s.cur.row.toNat m) u) ∧ OwnCs w' W.heap.size u (withRow (seenG s) s.cur.row.toNat m).cells ∧ Below W.heap.size W w') := Lib.hid fun W v k kv => by
    have q := refWithG_any (seenG s) (.slice AX nX cX) v m s.cur.row.toNat W HF.out.g (by have := HF.out.row0; have := HF.out.row1; have := HF.out.gr; omega) (HRM.out W k) kv HML.out
    rw [hrow] at q
    exact q
  clear hm hrow hcl h12 hcells hfit
  have HMD : Hid (∀ W, Pb w (noWrap s) x1 y1 z1 W → W.cell? ⟨w.heap.size, 40, none⟩ = some (.int .i64 s.modes)) := Lib.hid fun W k => k.pn.box.cell 40
  have q4 := HQ.out w4.drew (H4.out.kept (Below.refl _ _).drew)
  obtain ⟨g0, g1, g2⟩ := HG.out w4.drew (H4.out.kept (Below.refl _ _).drew)
  go_upto_region 31 with (fail)
  go_cut [13] from 118 to 124 (fun s13 wx => ∃ A5 c5, s13 = .slice A5 (lineS s).length c5 ∧ Hid (Pb w (noWrap s) x1 y1 z1 wx) ∧ Hid (Cs wx (.slice A5 (lineS s).length c5) (lineS s)))
  case first =>
    obtain ⟨p0, p1, pa0, pa1, pa2⟩ := q4
    go_region_law ((go_simp; go_at_call 88; refine (HAT.out w4.drew (H4.out.kept (Below.refl _ _).drew)).mono ?_; rintro e w5 ⟨v, rfl, ho, hb⟩; have H5 := Lib.hid (H4.out.kept ((Below.refl _ _).drew.trans hb)); obtain ⟨A5, c5, rfl, _⟩ := ho.cs.form; have HV5 := Lib.hid ho.cs; clear ho hb))
    all_goals
      go_wp2_with fail
      go_meet
      exact ⟨_, _, rfl, H5, HV5⟩
  case rest =>
  obtain ⟨A5, c5, rfl, H6, HV6⟩ := hcut
  rename World => w6
  clear q4 g0 g1 g2 H4
  have b40 := HMD.out w6 H6.out
  have q4 := HQ.out w6.drew (H6.out.kept (Below.refl _ _).drew)
  obtain ⟨u0, u1, u2⟩ := HG.out w6.drew (H6.out.kept (Below.refl _ _).drew)
  go_upto_region 34 with (fail)
  refine wp_region_held_drew (S := fun w' => w'.cell? ⟨w.heap.size, 7, none⟩ = some (.int .i64 s.cur.row) ∧ w'.cell? ⟨w.heap.size, 8, none⟩ = some (.int .i64 s.cur.col) ∧ w'.cell? ⟨w.heap.size, 10, none⟩ = some (.int .i64 s.cur.a.fg) ∧ w'.cell? ⟨w.heap.size, 11, none⟩ = some (.int .i64 s.cur.a.bg) ∧ w'.cell? ⟨w.heap.size, 12, none⟩ = some (.int .i64 s.cur.a.flags)) (by kernel_rfl) q4 (fun hHeld => ?_)
  refine wpAnyH_take (i := 0) (v := ?_) rfl (by kernel_rfl) (by kernel_rfl) (by kernel_rfl) (fun _ _ _ h => h) (Or.inl ⟨by rfl, ?_⟩) (by assumption) ?_
  rotate_left
  · intro w' hSw; first | (go_simp; done) | (go_simp; with_reducible rfl)
  simp only [Act.put, List.getElem_toArray, List.getElem_cons_zero, List.setIfInBounds_toArray, List.set_cons_zero, List.set_cons_succ]
  refine wpAnyH_take (i := 1) (v := ?_) rfl (by kernel_rfl) (by kernel_rfl) (by kernel_rfl) (fun _ _ _ h => h) (Or.inl ⟨by rfl, ?_⟩) (by assumption) ?_
  rotate_left
  · intro w' hSw; first | (go_simp; done) | (go_simp; with_reducible rfl)
  simp only [Act.put, List.getElem_toArray, List.getElem_cons_zero, List.getElem_cons_succ, List.setIfInBounds_toArray, List.set_cons_zero, List.set_cons_succ]
  refine wpAnyH_take (i := 2) (v := ?_) rfl (by kernel_rfl) (by kernel_rfl) (by kernel_rfl) (fun _ _ _ h => h) (Or.inl ⟨by rfl, ?_⟩) (by assumption) ?_
  rotate_left
  · intro w' hSw; first | (go_simp; done) | (go_simp; with_reducible rfl)
  simp only [Act.put, List.getElem_toArray, List.getElem_cons_zero, List.getElem_cons_succ, List.setIfInBounds_toArray, List.set_cons_zero, List.set_cons_succ]
  refine wpAnyH_take (i := 4) (v := ?_) rfl (by kernel_rfl) (by kernel_rfl) (by kernel_rfl) (fun _ _ _ h => h) (Or.inl ⟨by rfl, ?_⟩) (by assumption) ?_
  rotate_left
  · intro w' hSw; first | (go_simp; done) | (go_simp; with_reducible rfl)
  simp only [Act.put, List.getElem_toArray, List.getElem_cons_zero, List.getElem_cons_succ, List.setIfInBounds_toArray, List.set_cons_zero, List.set_cons_succ]
  refine wpAnyH_take (i := 5) (v := ?_) rfl (by kernel_rfl) (by kernel_rfl) (by kernel_rfl) (fun _ _ _ h => h) (Or.inl ⟨by rfl, ?_⟩) (by assumption) ?_
  rotate_left
  · intro w' hSw; first | (go_simp; done) | (go_simp; with_reducible rfl)
  simp only [Act.put, List.getElem_toArray, List.getElem_cons_zero, List.getElem_cons_succ, List.setIfInBounds_toArray, List.set_cons_zero, List.set_cons_succ]
  refine wpAnyH_take (i := 6) (v := ?_) rfl (by kernel_rfl) (by kernel_rfl) (by kernel_rfl) (fun _ _ _ h => h) (Or.inl ⟨by rfl, ?_⟩) (by assumption) ?_
  rotate_left
  · intro w' hSw; first | (go_simp; done) | (go_simp; with_reducible rfl)
  simp only [Act.put, List.getElem_toArray, List.getElem_cons_zero, List.getElem_cons_succ, List.setIfInBounds_toArray, List.set_cons_zero, List.set_cons_succ]
  refine wpAnyH_take (i := 7) (v := ?_) rfl (by kernel_rfl) (by kernel_rfl) (by kernel_rfl) (fun _ _ _ h => h) (Or.inl ⟨by rfl, ?_⟩) (by assumption) ?_
  rotate_left
  · intro w' hSw; first | (go_simp; done) | (go_simp; with_reducible rfl)
  simp only [Act.put, List.getElem_toArray, List.getElem_cons_zero, List.getElem_cons_succ, List.setIfInBounds_toArray, List.set_cons_zero, List.set_cons_succ]
  refine wpAnyH_take (i := 8) (v := ?_) rfl (by kernel_rfl) (by kernel_rfl) (by kernel_rfl) (fun _ _ _ h => h) (Or.inl ⟨by rfl, ?_⟩) (by assumption) ?_
  rotate_left
  · intro w' hSw; first | (go_simp; done) | (go_simp; with_reducible rfl)
  simp only [Act.put, List.getElem_toArray, List.getElem_cons_zero, List.getElem_cons_succ, List.setIfInBounds_toArray, List.set_cons_zero, List.set_cons_succ]
  refine wpAnyH_take (i := 9) (v := ?_) rfl (by kernel_rfl) (by kernel_rfl) (by kernel_rfl) (fun _ _ _ h => h) (Or.inl ⟨by rfl, ?_⟩) (by assumption) ?_
  rotate_left
  · intro w' hSw; first | (go_simp; done) | (go_simp; with_reducible rfl)
  simp only [Act.put, List.getElem_toArray, List.getElem_cons_zero, List.getElem_cons_succ, List.setIfInBounds_toArray, List.set_cons_zero, List.set_cons_succ]
  refine wpAnyH_take (i := 10) (v := ?_) rfl (by kernel_rfl) (by kernel_rfl) (by kernel_rfl) (fun _ _ _ h => h) (Or.inl ⟨by rfl, ?_⟩) (by assumption) ?_
  rotate_left
  · intro w' hSw; first | (go_simp; done) | (go_simp; with_reducible rfl)
  simp only [Act.put, List.getElem_toArray, List.getElem_cons_zero, List.getElem_cons_succ, List.setIfInBounds_toArray, List.set_cons_zero, List.set_cons_succ]
  refine wpAnyH_take (i := 11) (v := ?_) rfl (by kernel_rfl) (by kernel_rfl) (by kernel_rfl) (fun _ _ _ h => h) (Or.inl ⟨by rfl, ?_⟩) (by assumption) ?_
  rotate_left
  · intro w' hSw; first | (go_simp; done) | (go_simp; with_reducible rfl)
  simp only [Act.put, List.getElem_toArray, List.getElem_cons_zero, List.getElem_cons_succ, List.setIfInBounds_toArray, List.set_cons_zero, List.set_cons_succ]
  refine wpAnyH_take (i := 12) (v := ?_) rfl (by kernel_rfl) (by kernel_rfl) (by kernel_rfl) (fun _ _ _ h => h) (Or.inl ⟨by rfl, ?_⟩) (by assumption) ?_
  rotate_left
  · intro w' hSw; first | (go_simp; done) | (go_simp; with_reducible rfl)
  simp only [Act.put, List.getElem_toArray, List.getElem_cons_zero, List.getElem_cons_succ, List.setIfInBounds_toArray, List.set_cons_zero, List.set_cons_succ]
  refine wpAnyH_take (i := 13) (v := ?_) rfl (by kernel_rfl) (by kernel_rfl) (by kernel_rfl) (fun _ _ _ h => h) (Or.inl ⟨by rfl, ?_⟩) (by assumption) ?_
  rotate_left
  · intro w' hSw; first | (go_simp; done) | (go_simp; with_reducible rfl)
  simp only [Act.put, List.getElem_toArray, List.getElem_cons_zero, List.getElem_cons_succ, List.setIfInBounds_toArray, List.set_cons_zero, List.set_cons_succ]
  refine wpAnyH_take (i := 14) (v := ?_) rfl (by kernel_rfl) (by kernel_rfl) (by kernel_rfl) (fun _ _ _ h => h) (Or.inl ⟨by rfl, ?_⟩) (by assumption) ?_
  rotate_left
  · intro w' hSw; first | (go_simp; done) | (go_simp; with_reducible rfl)
  simp only [Act.put, List.getElem_toArray, List.getElem_cons_zero, List.getElem_cons_succ, List.setIfInBounds_toArray, List.set_cons_zero, List.set_cons_succ]
  refine wpAnyH_ready (rs := [3, 15]) (by kernel_rfl) (by simp) ?_
  refine AllReadyH.cons rfl (fun K hK => ?_) ?_
  · go_simp
    refine hK.out _ _ q4 (fun hHeld => ?_)
    clear hK K
    refine wpAnyH_ready (rs := [15]) (by kernel_rfl) (by simp) ?_
    refine AllReadyH.cons rfl (fun K hK => ?_) ?_
    · go_simp
      go_at_call 91
      refine (HFN.out w6.drew (.slice A5 (lineS s).length c5) (HV6.out.kept (Below.refl _ _).drew)).mono ?_; rintro e w7 ⟨v7, rfl, ho, hb⟩
      have H7 := Lib.hid (H6.out.kept ((Below.refl _ _).drew.trans hb))
      obtain ⟨A7, c7, rfl, _⟩ := ho.cs.form
      have HV7 := Lib.hid ho.cs
      have qc1 := HQ.out w7 H7.out
      obtain ⟨v0, v1, v2⟩ := HG.out w7 H7.out
      clear ho hb
      refine hK.out _ _ qc1 (fun hHeld => ?_)
      clear hK K
      refine wpAnyH_ready (rs := [16]) (by kernel_rfl) (by simp) ?_
      refine AllReadyH.cons rfl (fun K hK => ?_) ?_
      · go_simp
        go_at_call 86
        refine (HWT.out w7 _ H7.out HV7.out).mono ?_; rintro e w8 ⟨v8, rfl, ho, hb⟩
        obtain ⟨A', n', c', rfl⟩ : ∃ A n c, v8 = .slice A n c := (by obtain ⟨A, c, e, _⟩ := ho.rm.2; exact ⟨A, _, c, e⟩)
        have H8 := Lib.hid (H7.out.kept hb)
        obtain ⟨x9, y9, h9'⟩ := HPN.out w8 _ (withRow (seenG s) s.cur.row.toNat m) H8.out (ho.low H7.out.pn.up)
        have H9 := Lib.hid h9'
        have qc2 := HQ.out w8 H8.out
        obtain ⟨r0, r1, r2⟩ := HG.out w8 H8.out
        have q8 := HQ4.out _ (withRow (seenG s) s.cur.row.toNat m) _ _ H9.out
        have f2 : ∀ j, w8.frozen? ⟨w.heap.size, j, none⟩ = false := H8.out.pn.box.free
        clear ho hb h9'
        refine hK.out _ _ qc2 (fun hHeld => ?_)
        clear hK K
        refine wpAnyH_take (i := 17) (v := ?_) rfl (by kernel_rfl) (by kernel_rfl) (by kernel_rfl) (fun _ _ _ h => h) (Or.inl ⟨by rfl, ?_⟩) (by assumption) ?_
        rotate_left
        · intro w' hSw; first | (go_simp; done) | (go_simp; with_reducible rfl)
        simp only [Act.put, List.getElem_toArray, List.getElem_cons_zero, List.getElem_cons_succ, List.setIfInBounds_toArray, List.set_cons_zero, List.set_cons_succ]
        refine wpAnyH_ready (rs := [18]) (by kernel_rfl) (by simp) ?_
        refine AllReadyH.cons rfl (fun K hK => ?_) ?_
        · go_simp
          refine hK.out _ _ q8 (fun hHeld => ?_)
          clear hK K
          refine wpAnyH_done (by kernel_rfl) ?_ _
          first | show Exit.then _ _ _ _ (pput w8 w.heap.size p (withRow (seenG s) s.cur.row.toNat m).rows (withRow (seenG s) s.cur.row.toNat m).cols (.slice A' n' c')) | show Exit.inBlock _ _ _ _ (pput w8 w.heap.size p (withRow (seenG s) s.cur.row.toNat m).rows (withRow (seenG s) s.cur.row.toNat m).cols (.slice A' n' c'))
          clear r0 r1 r2 v0 v1 v2 u0 u1 u2 q4 q8 qc1 qc2 f2 hHeld HPN HQ HG HRM HAT HFN HWT H6 H7 H8 HV6 HV7
          generalize pput w8 w.heap.size p (withRow (seenG s) s.cur.row.toNat m).rows (withRow (seenG s) s.cur.row.toNat m).cols (.slice A' n' c') = wz at H9 ⊢
          obtain ⟨z7, z8, _, _, _⟩ := HQ4.out wz _ _ _ H9.out
          have f8 : wz.frozen? ⟨w.heap.size, 8, none⟩ = false := H9.out.pn.box.free 8
          go_upto_region 36 with (fail)
          change Code.wp _ _ _ _ (wz.setCell ⟨w.heap.size, 8, none⟩ (.int .i64 (s.cur.col + 1)))
          have HA : Hid (Pb w (atPlace' (putG (noWrap s) (withRow (seenG s) s.cur.row.toNat m)) (s.cur.col + 1)) x9 y9 z1 (wz.setCell ⟨w.heap.size, 8, none⟩ (.int .i64 (s.cur.col + 1)))) := Lib.hid (H9.out.only ⟨Blk.set H9.out.pn.box 8 _, (H9.out.pn.own.set H9.out.pn.lt 8 _).as _ rfl rfl rfl, H9.out.pn.lt, by rw [size_set]; exact H9.out.pn.up⟩ ((Below.refl w.heap.size wz).setCell (Nat.le_refl _) _) ((Only.refl w.heap.size wz).set _ _))
          clear z7 z8 f8 H9
          generalize wz.setCell ⟨w.heap.size, 8, none⟩ (.int .i64 (s.cur.col + 1)) = wy at HA ⊢
          have y8 : wy.cell? ⟨w.heap.size, 8, none⟩ = some (.int .i64 (s.cur.col + 1)) := HA.out.pn.box.cell 8
          have y42 : wy.cell? ⟨w.heap.size, 42, none⟩ = some (.int .i64 (atPlace' (putG (noWrap s) (withRow (seenG s) s.cur.row.toNat m)) (s.cur.col + 1)).last) := HA.out.pn.box.cell 42
          have g42 : wy.frozen? ⟨w.heap.size, 42, none⟩ = false := HA.out.pn.box.free 42
          have HB : Hid (Pb w { atPlace' (putG (noWrap s) (withRow (seenG s) s.cur.row.toNat m)) (s.cur.col + 1) with last := r } x9 y9 z1 (wy.setCell ⟨w.heap.size, 42, none⟩ (.int .i64 r))) := Lib.hid (HA.out.only ⟨Blk.set HA.out.pn.box 42 _, (HA.out.pn.own.set HA.out.pn.lt 42 _).as _ rfl rfl rfl, HA.out.pn.lt, by rw [size_set]; exact HA.out.pn.up⟩ ((Below.refl w.heap.size wy).setCell (Nat.le_refl _) _) ((Only.refl w.heap.size wy).set _ _))
          have HE : Hid (oneS s r = { atPlace' (putG (noWrap s) (withRow (seenG s) s.cur.row.toNat m)) (s.cur.col + 1) with last := r }) := Lib.hid (by
            unfold oneS
            rw [HMM.out]
            show passed (putG (noWrap s) (withRow (seenG s) s.cur.row.toNat m)) (s.cur.col + 1) false r = _
            have e := putG_wrap (noWrap s) (withRow (seenG s) s.cur.row.toNat m)
            unfold passed atPlace'
            rw [e]
            rfl)
          go_wp2_with (first
            | (refine wp_loadS (b := w.heap.size) (s := { atPlace' (putG (noWrap s) (withRow (seenG s) s.cur.row.toNat m)) (s.cur.col + 1) with last := r }) rfl rfl rfl HB.out.pn.box ?_)
            | (refine wp_storeS (b := w.heap.size + 1) rfl rfl rfl rfl rfl HB.out.pn.own.in_.one HB.out.b1 rfl ?_; intro w9 h9))
          refine bodyPost_ret (ret1S rfl rfl h9.box) rfl ?_
          rw [HE.out]
          exact ⟨_, _, _, rfl, Own.low (h9.own HB.out.pn.own (by omega)) (by omega), h9.below _ _ (by omega) HB.out.bel⟩
        exact AllReadyH.nil
      exact AllReadyH.nil
    exact AllReadyH.nil
  refine AllReadyH.cons rfl (fun K hK => ?_) ?_
  · go_simp
    go_at_call 91
    refine (HFN.out w6.drew (.slice A5 (lineS s).length c5) (HV6.out.kept (Below.refl _ _).drew)).mono ?_; rintro e w7 ⟨v7, rfl, ho, hb⟩
    have H7 := Lib.hid (H6.out.kept ((Below.refl _ _).drew.trans hb))
    obtain ⟨A7, c7, rfl, _⟩ := ho.cs.form
    have HV7 := Lib.hid ho.cs
    have qc1 := HQ.out w7 H7.out
    obtain ⟨v0, v1, v2⟩ := HG.out w7 H7.out
    clear ho hb
    refine hK.out _ _ qc1 (fun hHeld => ?_)
    clear hK K
    refine wpAnyH_ready (rs := [3]) (by kernel_rfl) (by simp) ?_
    refine AllReadyH.cons rfl (fun K hK => ?_) ?_
    · go_simp
      refine hK.out _ _ qc1 (fun hHeld => ?_)
      clear hK K
      refine wpAnyH_ready (rs := [16]) (by kernel_rfl) (by simp) ?_
      refine AllReadyH.cons rfl (fun K hK => ?_) ?_
      · go_simp
        go_at_call 86
        refine (HWT.out w7 _ H7.out HV7.out).mono ?_; rintro e w8 ⟨v8, rfl, ho, hb⟩
        obtain ⟨A', n', c', rfl⟩ : ∃ A n c, v8 = .slice A n c := (by obtain ⟨A, c, e, _⟩ := ho.rm.2; exact ⟨A, _, c, e⟩)
        have H8 := Lib.hid (H7.out.kept hb)
        obtain ⟨x9, y9, h9'⟩ := HPN.out w8 _ (withRow (seenG s) s.cur.row.toNat m) H8.out (ho.low H7.out.pn.up)
        have H9 := Lib.hid h9'
        have qc2 := HQ.out w8 H8.out
        obtain ⟨r0, r1, r2⟩ := HG.out w8 H8.out
        have q8 := HQ4.out _ (withRow (seenG s) s.cur.row.toNat m) _ _ H9.out
        have f2 : ∀ j, w8.frozen? ⟨w.heap.size, j, none⟩ = false := H8.out.pn.box.free
        clear ho hb h9'
        refine hK.out _ _ qc2 (fun hHeld => ?_)
        clear hK K
        refine wpAnyH_take (i := 17) (v := ?_) rfl (by kernel_rfl) (by kernel_rfl) (by kernel_rfl) (fun _ _ _ h => h) (Or.inl ⟨by rfl, ?_⟩) (by assumption) ?_
        rotate_left
        · intro w' hSw; first | (go_simp; done) | (go_simp; with_reducible rfl)
        simp only [Act.put, List.getElem_toArray, List.getElem_cons_zero, List.getElem_cons_succ, List.setIfInBounds_toArray, List.set_cons_zero, List.set_cons_succ]
        refine wpAnyH_ready (rs := [18]) (by kernel_rfl) (by simp) ?_
        refine AllReadyH.cons rfl (fun K hK => ?_) ?_
        · go_simp
          refine hK.out _ _ q8 (fun hHeld => ?_)
          clear hK K
          refine wpAnyH_done (by kernel_rfl) ?_ _
          first | show Exit.then _ _ _ _ (pput w8 w.heap.size p (withRow (seenG s) s.cur.row.toNat m).rows (withRow (seenG s) s.cur.row.toNat m).cols (.slice A' n' c')) | show Exit.inBlock _ _ _ _ (pput w8 w.heap.size p (withRow (seenG s) s.cur.row.toNat m).rows (withRow (seenG s) s.cur.row.toNat m).cols (.slice A' n' c'))
          clear r0 r1 r2 v0 v1 v2 u0 u1 u2 q4 q8 qc1 qc2 f2 hHeld HPN HQ HG HRM HAT HFN HWT H6 H7 H8 HV6 HV7
          generalize pput w8 w.heap.size p (withRow (seenG s) s.cur.row.toNat m).rows (withRow (seenG s) s.cur.row.toNat m).cols (.slice A' n' c') = wz at H9 ⊢
          obtain ⟨z7, z8, _, _, _⟩ := HQ4.out wz _ _ _ H9.out
          have f8 : wz.frozen? ⟨w.heap.size, 8, none⟩ = false := H9.out.pn.box.free 8
          go_upto_region 36 with (fail)
          change Code.wp _ _ _ _ (wz.setCell ⟨w.heap.size, 8, none⟩ (.int .i64 (s.cur.col + 1)))
          have HA : Hid (Pb w (atPlace' (putG (noWrap s) (withRow (seenG s) s.cur.row.toNat m)) (s.cur.col + 1)) x9 y9 z1 (wz.setCell ⟨w.heap.size, 8, none⟩ (.int .i64 (s.cur.col + 1)))) := Lib.hid (H9.out.only ⟨Blk.set H9.out.pn.box 8 _, (H9.out.pn.own.set H9.out.pn.lt 8 _).as _ rfl rfl rfl, H9.out.pn.lt, by rw [size_set]; exact H9.out.pn.up⟩ ((Below.refl w.heap.size wz).setCell (Nat.le_refl _) _) ((Only.refl w.heap.size wz).set _ _))
          clear z7 z8 f8 H9
          generalize wz.setCell ⟨w.heap.size, 8, none⟩ (.int .i64 (s.cur.col + 1)) = wy at HA ⊢
          have y8 : wy.cell? ⟨w.heap.size, 8, none⟩ = some (.int .i64 (s.cur.col + 1)) := HA.out.pn.box.cell 8
          have y42 : wy.cell? ⟨w.heap.size, 42, none⟩ = some (.int .i64 (atPlace' (putG (noWrap s) (withRow (seenG s) s.cur.row.toNat m)) (s.cur.col + 1)).last) := HA.out.pn.box.cell 42
          have g42 : wy.frozen? ⟨w.heap.size, 42, none⟩ = false := HA.out.pn.box.free 42
          have HB : Hid (Pb w { atPlace' (putG (noWrap s) (withRow (seenG s) s.cur.row.toNat m)) (s.cur.col + 1) with last := r } x9 y9 z1 (wy.setCell ⟨w.heap.size, 42, none⟩ (.int .i64 r))) := Lib.hid (HA.out.only ⟨Blk.set HA.out.pn.box 42 _, (HA.out.pn.own.set HA.out.pn.lt 42 _).as _ rfl rfl rfl, HA.out.pn.lt, by rw [size_set]; exact HA.out.pn.up⟩ ((Below.refl w.heap.size wy).setCell (Nat.le_refl _) _) ((Only.refl w.heap.size wy).set _ _))
          have HE : Hid (oneS s r = { atPlace' (putG (noWrap s) (withRow (seenG s) s.cur.row.toNat m)) (s.cur.col + 1) with last := r }) := Lib.hid (by
            unfold oneS
            rw [HMM.out]
            show passed (putG (noWrap s) (withRow (seenG s) s.cur.row.toNat m)) (s.cur.col + 1) false r = _
            have e := putG_wrap (noWrap s) (withRow (seenG s) s.cur.row.toNat m)
            unfold passed atPlace'
            rw [e]
            rfl)
          go_wp2_with (first
            | (refine wp_loadS (b := w.heap.size) (s := { atPlace' (putG (noWrap s) (withRow (seenG s) s.cur.row.toNat m)) (s.cur.col + 1) with last := r }) rfl rfl rfl HB.out.pn.box ?_)
            | (refine wp_storeS (b := w.heap.size + 1) rfl rfl rfl rfl rfl HB.out.pn.own.in_.one HB.out.b1 rfl ?_; intro w9 h9))
          refine bodyPost_ret (ret1S rfl rfl h9.box) rfl ?_
          rw [HE.out]
          exact ⟨_, _, _, rfl, Own.low (h9.own HB.out.pn.own (by omega)) (by omega), h9.below _ _ (by omega) HB.out.bel⟩
        exact AllReadyH.nil
      exact AllReadyH.nil
    exact AllReadyH.nil
  exact AllReadyH.nil
end Scr
end
section
open Go.RowKit
namespace Scr
open Go.Proofs.YtceaoadlhdgnmaaGreatDoor.Row Wid
def oneE : S := oneS (newS 1 2) 97
def gone : S := editS oneE 74 2
theorem oneE_here : oneE = hereS (newS 1 2) 97 1 := by kernel_rfl
theorem oneE_facts : (bits .and .i64 (newS 1 2).modes 2 == 0) = true ∧ wid 97 = 1 := by
  refine ⟨?_, ?_⟩ <;> kernel_rfl
theorem gone_facts : gone.main.cells.length = 2 ∧ (g gone.main.cells 0).rune = 32 ∧ gone.cur.col = 1 := by
  refine ⟨?_, ?_, ?_⟩ <;> kernel_rfl
set_option maxHeartbeats 3200000 in
theorem wakes11 (w : World) (hT : Tabs w) : Calls Tryz.prog 48 #[] w fun e w' => e = .returned (.bool true) ∧ Below w.heap.size w w' := by
  have HN := Lib.hid (refNew8 1 2 w (by decide) (by decide) (by decide) (by decide))
  have hok0 := newS_ok (r := 1) (c := 2) (by decide) (by decide) (by decide) (by decide)
  have hok1 : Ok oneE := by
    rw [oneE_here]
    exact hereS_ok hok0 (r := 97) (n := 1) oneE_facts.2 (.inl rfl) (by decide)
  have HR1 := Lib.hid (fun x y z W (h : In W (newS 1 2) x y z) => refPrint_one (newS 1 2) x y z 97 W h hok0 rfl rfl rfl oneE_facts.2 oneE_facts.1 (by decide))
  have HR2 := Lib.hid (fun x y z W (h : In W oneE x y z) (t : Tabs W) => editD oneE x y z 74 2 W h hok1.holds t)
  have HMAY : Hid (mayE oneE 74 2 = true) := Lib.hid (mayE_iff.2 ⟨(ok_iff _).2 hok1, rfl, rfl⟩)
  have HL : Hid (gone.main.cells.length = 2 ∧ (g gone.main.cells 0).rune = 32 ∧ gone.cur.col = 1) := Lib.hid gone_facts
  have e1 : oneS (newS 1 2) 97 = oneE := rfl
  have e2 : editS oneE 74 2 = gone := rfl
  rw [e1] at HR1
  rw [e2] at HR2
  clear e1 e2 hok0 hok1
  generalize mayE oneE 74 2 = may at HR2 HMAY
  generalize gone = S2 at HR2 HL
  generalize oneE = S1 at HR1 HR2
  have HT := Lib.hid hT
  clear hT
  go_enter Tryz.func48, Tryz.ntmps48
  go_wp2_with fail
  refine HN.out.mono ?_; rintro e w1 ⟨x, y, z, rfl, ho, hb⟩
  generalize newS 1 2 = S0 at HR1 ho ⊢
  have H1 := Lib.hid (And.intro ho.in_ hb)
  clear ho hb HN
  go_wp2_with fail
  refine (HR1.out x y z w1 H1.out.1).mono ?_; rintro e w2 ⟨x1, y1, z1, rfl, ho, hb⟩
  have H2 : Hid (In w2 S1 x1 y1 z1 ∧ Below w.heap.size w w2) := Lib.hid ⟨ho.in_, H1.out.2.trans (hb.mono H1.out.2.size)⟩
  clear ho hb H1 HR1
  go_wp2_with (first
    | (refine wp_allocS (n := w2.heap.size) rfl rfl rfl ?_)
    | (refine wp_storeS (b := w2.heap.size) rfl rfl rfl rfl rfl H2.out.1.one (heap_alloc_new _ _) rfl ?_; intro w3 h3; obtain ⟨hx3, hb3⟩ := bx_sto (e := ⟨S1, x1, y1, z1⟩) H2.out.1 h3; have H3 := Lib.hid (And.intro hx3 (H2.out.2.trans (hb3.mono H2.out.2.size))); clear h3 hx3 hb3)
    | (refine wp_loadS (b := w2.heap.size) (s := S1) (x0 := x1) (y0 := y1) (z0 := z1) rfl rfl rfl H3.out.1.box ?_))
  refine (HR2.out x1 y1 z1 w3 H3.out.1.i (HT.out.kept H3.out.2)).mono ?_; rintro e w4 ⟨X, x2, y2, z2, code, rfl, hans⟩
  obtain rfl := hans.yes HMAY.out
  have hcode : code = 0 := by rw [hans.code, HMAY.out]; rfl
  subst hcode
  have HO4 := Lib.hid hans.own
  have HB4 := Lib.hid (H3.out.2.trans (hans.bel.mono H3.out.2.size))
  clear hans H2 H3 HR2
  rcases HO4.out.m.shape with ⟨_, e0⟩ | ⟨g2, cap, e0, _, _⟩
  · have := HL.out.1; rw [e0] at this; simp at this
  rw [HL.out.1] at e0
  subst e0
  go_wp2_with (first
    | (refine wp_allocS (n := w4.heap.size) rfl rfl rfl ?_)
    | (refine wp_storeS (b := w4.heap.size) rfl rfl rfl rfl rfl HO4.out.in_.one (heap_alloc_new _ _) rfl ?_; intro w5 h5))
  obtain ⟨hx5, hb5⟩ := bx_sto (e := ⟨X, .slice (some ⟨g2, 0, none⟩) 2 cap, y2, z2⟩) HO4.out.in_ h5
  have HX5 := Lib.hid hx5
  have HO5 := Lib.hid (HO4.out.kept hb5)
  have HB5 := Lib.hid (HB4.out.trans (hb5.mono HB4.out.size))
  clear hx5 hb5 h5
  refine num11_then ?_
  have c2 : w5.cell? ⟨w4.heap.size, 2, none⟩ = some (.slice (some ⟨g2, 0, none⟩) 2 cap) := HX5.out.box.cell 2
  have c8 : w5.cell? ⟨w4.heap.size, 8, none⟩ = some (.int .i64 1) := by have k := HX5.out.box.cell 8; rw [sarr_8, HL.out.2.2] at k; exact k
  have c0 : w5.cell? ⟨g2, 0, none⟩ = some (.int .i64 32) := by
    have k := HO5.out.m.cell (k := 0) (j := 0) (by rw [HL.out.1]; decide) (by decide)
    rw [← HL.out.2.1]
    exact k
  go_wp2_with fail
  go_ret
  exact ⟨rfl, HB5.out⟩
end Scr
end
end Go.Proofs.YtceaoadlhdgnmaaGreatDoor
