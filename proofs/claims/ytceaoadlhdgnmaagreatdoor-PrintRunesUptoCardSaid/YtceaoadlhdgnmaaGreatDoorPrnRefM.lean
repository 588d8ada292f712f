/- The page's Print: a mark, on every screen. -/
import Derived.Test.YtceaoadlhdgnmaaGreatDoorMRestS
import Derived.Test.YtceaoadlhdgnmaaGreatDoorM112
import Derived.Deep.RegionLaw
import Derived.Deep.RegionHeld3
import Derived.Deep.CutRange
import Derived.Deep.DeepCutAuto
import Derived.BigRegion
import Derived.BigQuiet
import Derived.Test.YtceaoadlhdgnmaaGreatDoorPrnRefW
import Derived.Test.YtceaoadlhdgnmaaGreatDoorRowRefComb
import Derived.Test.YtceaoadlhdgnmaaGreatDoorM405
namespace Go.Proofs.YtceaoadlhdgnmaaGreatDoor
set_option maxRecDepth 100000
open Go.RowKit
namespace Scr
open Go.Proofs.YtceaoadlhdgnmaaGreatDoor.Row Wid

set_option maxHeartbeats 6400000 in
theorem refPrint_mark (s : S) (x y z : Value) (r : Int) (w : World) (h : In w s x y z) (hok : Ok s) (hr : wid r = 0) :
    Calls Tryz.prog 35 #[sv s x y z, .int .i64 r] w fun e w' => ∃ x' y' z', e = .returned (sv (markS s r) x' y' z') ∧ Own w' w.heap.size (markS s r) x' y' z' ∧ Below w.heap.size w w' := by
  have HI := Lib.hid h
  have HF := Lib.hid hok.facts
  have H0 := Lib.hid (Rz.start w s x y z)
  have HL := Lib.hid hok.lens
  have HOK := Lib.hid hok
  have HST := Lib.hid hok.sets
  have HR1 := Lib.hid hr
  have HWD := Lib.hid (fun W => width_any r W)
  rw [hr] at HWD
  have HRG : Hid (rng r 96 126 = false) := Lib.hid (by
    refine Bool.eq_false_iff.2 fun q => ?_
    have q := rng_iff.1 q
    have hj := (drawn_widths ⟨(r - 96).toNat, by omega⟩).1
    simp only at hj
    rw [show (96 : Int) + ((r - 96).toNat : Int) = r by omega, hr] at hj
    cases hj)
  obtain ⟨hr0, hr1, _⟩ := mark_rune hr
  have HR01 : Hid (0 ≤ r ∧ r ≤ 1114111) := Lib.hid ⟨by omega, by omega⟩
  clear h hok hr hr0 hr1
  go_enter Tryz.func35, Tryz.ntmps35
  go_wp2_with (first
    | (refine wp_allocS1 (w := w) rfl rfl ?_)
    | (refine wp_loadS (b := w.heap.size) (s := s) rfl rfl rfl H0.out.b0 ?_))
  refine (copyScreen_any s x y z _ (HI.out.kept H0.out.bel) HL.out).mono ?_; rintro e w1 ⟨x1, y1, z1, rfl, ho, hb⟩
  have H1 := Lib.hid (H0.out.kept hb)
  have HO1 := Lib.hid (ho.low H0.out.up)
  clear ho hb H0 HI
  have HCX : Hid (∀ W, Pb w s x1 y1 z1 W → W.cell? ⟨w.heap.size, 1, none⟩ = some (.int .i64 s.main.cols) ∧ W.cell? ⟨w.heap.size, 8, none⟩ = some (.int .i64 s.cur.col) ∧ W.cell? ⟨w.heap.size, 9, none⟩ = some (.bool s.cur.wrap) ∧ W.cell? ⟨w.heap.size, 13, none⟩ = some (.int .i64 s.cur.g0) ∧ W.cell? ⟨w.heap.size, 14, none⟩ = some (.int .i64 s.cur.g1) ∧ W.cell? ⟨w.heap.size, 15, none⟩ = some (.int .i64 s.cur.shift) ∧ W.cell? ⟨w.heap.size, 40, none⟩ = some (.int .i64 s.modes)) := Lib.hid fun W k =>
    ⟨k.pn.box.cell 1, k.pn.box.cell 8, k.pn.box.cell 9, k.pn.box.cell 13, k.pn.box.cell 14, k.pn.box.cell 15, k.pn.box.cell 40⟩
  go_upto_if 23 with (refine wp_storeS_then (b := w.heap.size) (A := sarr s x1 y1 z1) (T := Pb w s x1 y1 z1) rfl rfl rfl rfl rfl HO1.out.in_.one H1.out.b0 rfl (fun _ k => Pb.start H1.out HO1.out k) ?_; intro w2 H2; obtain ⟨b1, b8, b9, b13, b14, b15, b40⟩ := HCX.out w2 H2.out)
  clear H1 HO1
  go_cut [6] from 20 to 26 (fun s6 wx => s6 = .int .i64 (setOf s.cur) ∧ Hid (Pb w s x1 y1 z1 wx))
  case first =>
    rcases HST.out.1 with hs | hs
    · have HE : Hid (setOf s.cur = s.cur.g0) := Lib.hid (by unfold setOf; rw [if_pos hs])
      rw [hs] at b15
      go_wp2_with fail
      go_meet
      exact ⟨by rw [HE.out], H2⟩
    · have HE : Hid (setOf s.cur = s.cur.g1) := Lib.hid (by unfold setOf; rw [if_neg (by omega)])
      rw [hs] at b15
      go_wp2_with fail
      go_meet
      exact ⟨by rw [HE.out], H2⟩
  case rest =>
  obtain ⟨rfl, H3⟩ := hcut
  rename World => w3
  clear b1 b8 b9 b13 b14 b15 b40 H2
  go_upto_region 6 with (fail)
  go_cut [6, 32] from 27 to 32 (fun s6 s32 wx => s6 = .int .i64 (setOf s.cur) ∧ s32 = .bool false ∧ Hid (Pb w s x1 y1 z1 wx))
  case first =>
    have HBT := Lib.hid (fun W => between_any r 96 126 W)
    rw [HRG.out] at HBT
    rcases HST.out.2 with hs | hs
    · rw [hs]
      go_wp2_with fail
      go_meet
      exact ⟨by rw [hs], rfl, H3⟩
    · rw [hs]
      go_wp2_with fail
      refine (HBT.out _).mono ?_; rintro e w4 ⟨rfl, rfl⟩
      go_wp2_with fail
      go_meet
      exact ⟨by rw [hs], rfl, H3⟩
  case rest =>
  obtain ⟨rfl, rfl, H4⟩ := hcut
  rename World => w4
  clear H3
  obtain ⟨b1, b8, b9, b13, b14, b15, b40⟩ := HCX.out w4 H4.out
  go_wp2_with fail
  refine (HWD.out w4).mono ?_; rintro e w5 ⟨rfl, hb⟩
  have H5 := Lib.hid (H4.out.kept hb)
  clear hb b1 b8 b9 b13 b14 b15 b40 H4 HWD
  obtain ⟨b1, b8, b9, b13, b14, b15, b40⟩ := HCX.out w5 H5.out
  clear b13 b14 b15 b40
  obtain ⟨k2, hk2⟩ : ∃ k, s.cur.wrap = k := ⟨_, rfl⟩
  rw [hk2] at b9
  have HCA : Hid (combAt s = if k2 then s.cur.col else s.cur.col - 1) := Lib.hid (by unfold combAt; rw [hk2])
  have hwc : IntKind.i64.wrap (s.cur.col - 1) = s.cur.col - 1 := by have := HF.out.col0; have := HF.out.col1; have := HF.out.c40; rw [IntKind.wrap_i64]; omega
  clear hk2
  obtain ⟨ca, hca⟩ : ∃ c, combAt s = c := ⟨_, rfl⟩
  have HCB := Lib.hid hca
  rw [hca] at HCA
  clear hca
  go_upto_if 51 with (fail)
  go_cut [9] from 51 to 53 (fun s9 wx => s9 = .int .i64 ca ∧ wx = w5)
  case first =>
    cases k2
    · have HE : Hid (ca = s.cur.col - 1) := Lib.hid HCA.out
      go_wp2_with fail
      go_meet
      exact ⟨by rw [HE.out], rfl⟩
    · have HE : Hid (ca = s.cur.col) := Lib.hid HCA.out
      go_wp2_with fail
      go_meet
      exact ⟨by rw [HE.out], rfl⟩
  case rest =>
  obtain ⟨rfl, hwx⟩ := hcut
  subst hwx
  rename World => w5
  clear b1 b8 b9 hwc
  by_cases hneg : ca < 0
  · have HE : Hid (markS s r = s) := Lib.hid (by unfold markS; rw [if_pos (by rw [HCB.out]; exact hneg)])
    clear HCX HST HF HL HRG HCA
    have hn2 : ¬ (0 ≤ ca) := by omega
    go_wp2_with (first
      | (refine wp_loadS (b := w.heap.size) (s := s) (x0 := x1) (y0 := y1) (z0 := z1) rfl rfl rfl H5.out.pn.box ?_)
      | (refine wp_storeS (b := w.heap.size + 1) rfl rfl rfl rfl rfl H5.out.pn.own.in_.one H5.out.b1 rfl ?_; intro wu hu))
    refine bodyPost_ret (ret1S rfl rfl hu.box) rfl ?_
    rw [HE.out]
    exact ⟨_, _, _, rfl, Own.low (hu.own H5.out.pn.own (by omega)) (by omega), hu.below _ _ (by omega) H5.out.bel⟩
  obtain ⟨k, rfl⟩ : ∃ k : Nat, ca = (k : Int) := ⟨ca.toNat, by omega⟩
  have hk0 : (0 : Int) ≤ (k : Int) := by omega
  have L := Lib.hid HOK.out.line
  have hkl : k < (lineS s).length := by
    have h1 := HCA.out
    have := HF.out.col1
    have := L.out.cI
    rw [L.out.len]
    split at h1 <;> omega
  obtain ⟨m, hm⟩ : ∃ m, combL (lineS s) k r = m := ⟨_, rfl⟩
  have HME : Hid (markS s r = putG s (withRow (seenG s) s.cur.row.toNat m)) := Lib.hid (by
    unfold markS
    rw [if_neg (by rw [HCB.out]; exact hneg), HCB.out, Int.toNat_natCast, hm]
    rfl)
  have HML : Hid (m.length = (seenG s).cols.toNat) := Lib.hid (by rw [← hm, combL_length, L.out.len])
  have HCM : Hid (∀ W v, Cs W v (lineS s) → Calls Tryz.prog 87 #[v, .int .i64 k, .int .i64 r] W fun e w' => ∃ u, e = .returned u ∧ OwnCs w' W.heap.size u m ∧ Below W.heap.size W w') := Lib.hid fun W v q => by
    rw [← hm]
    exact refComb_any (lineS s) k r v W q L.out.ok hkl HR01.out.1 HR01.out.2
  clear hm hneg HCA HCB HCX HST HRG
  go_wp2_with fail
  refine (refSeenE s x1 y1 z1 w.heap.size w5 H5.out.pn.box).mono ?_; rintro e w5' ⟨rfl, rfl⟩
  obtain ⟨p, hp⟩ : ∃ p, seatO s = p := ⟨_, rfl⟩
  have HPP := Lib.hid hp
  have HP3 : Hid (p ≤ 3) := Lib.hid (by rw [← hp]; exact seatO_le _)
  rw [hp]
  clear hp
  obtain ⟨XX, hXX⟩ : ∃ X, seenX s x1 y1 = X := ⟨_, rfl⟩
  obtain ⟨AX, nX, cX, rfl⟩ : ∃ A n c, XX = .slice A n c := (by subst hXX; obtain ⟨A, c, e, _⟩ := (seenX_rm H5.out.pn.own.in_).2; exact ⟨A, _, c, e⟩)
  have HQ : Hid (∀ W, Pb w s x1 y1 z1 W → W.cell? ⟨w.heap.size, 7, none⟩ = some (.int .i64 s.cur.row)) := Lib.hid fun W k => k.pn.box.cell 7
  have HG : Hid (∀ W, Pb w s x1 y1 z1 W → W.cell? ⟨w.heap.size, p, none⟩ = some (.int .i64 (seenG s).rows) ∧ W.cell? ⟨w.heap.size, p + 1, none⟩ = some (.int .i64 (seenG s).cols) ∧ W.cell? ⟨w.heap.size, p + 2, none⟩ = some (.slice AX nX cX)) := Lib.hid fun W k => by
    have q := seat_arr s x1 y1 z1
    rw [hXX, HPP.out] at q
    exact ⟨by rw [k.pn.box.cell]; exact q.1, by rw [k.pn.box.cell]; exact q.2.1, by rw [k.pn.box.cell]; exact q.2.2⟩
  have HRM : Hid (∀ W, Pb w s x1 y1 z1 W → Rm W (.slice AX nX cX) (seenG s).cells) := Lib.hid fun W k => hXX ▸ seenX_rm k.pn.own.in_
  have HPN : Hid (∀ W v G, Pb w s x1 y1 z1 W → OwnCs W (w.heap.size + 2) v G.cells → ∃ x' y', Pb w (putG s G) x' y' z1 (pput W w.heap.size p G.rows G.cols v)) := Lib.hid fun W v G k hv => by
    have q := k.seenE hv
    rw [HPP.out] at q
    exact ⟨_, _, q⟩
  have HQ4 : Hid (∀ W G x' y', Pb w (putG s G) x' y' z1 W → W.cell? ⟨w.heap.size, 7, none⟩ = some (.int .i64 s.cur.row)) := Lib.hid fun W G x' y' k => by
    have e : (putG s G).cur = s.cur := by unfold putG; split <;> rfl
    have q7 := k.pn.box.cell 7
    rw [sarr_7, e] at q7
    exact q7
  have hrow : ((s.cur.row.toNat : Nat) : Int) = s.cur.row := by have := HF.out.row0; omega
  have HAT : Hid (∀ W, Pb w s x1 y1 z1 W → Calls Tryz.prog 88 #[.agg #[.int .i64 (seenG s).rows, .int .i64 (seenG s).cols, .slice AX nX cX], .int .i64 s.cur.row] W fun e w' => ∃ u, e = .returned u ∧ OwnCs w' W.heap.size u (lineS s) ∧ Below W.heap.size W w') := Lib.hid fun W k => by
    have q := refAtG_any (seenG s) (.slice AX nX cX) s.cur.row.toNat W HF.out.g (by have := HF.out.row0; have := HF.out.row1; have := HF.out.gr; omega) (HRM.out W k)
    rw [hrow] at q
    exact q
  have HWT : Hid (∀ W v, Pb w s x1 y1 z1 W → Cs W v m → Calls Tryz.prog 86 #[.agg #[.int .i64 (seenG s).rows, .int .i64 (seenG s).cols, .slice AX nX cX], .int .i64 s.cur.row, v] W fun e w' => ∃ u, e = .returned (gridV (withRow (seenG s) s.cur.row.toNat m) u) ∧ OwnCs w' W.heap.size u (withRow (seenG s) s.cur.row.toNat m).cells ∧ Below W.heap.size W w') := Lib.hid fun W v k kv => by
    have q := refWithG_any (seenG s) (.slice AX nX cX) v m s.cur.row.toNat W HF.out.g (by have := HF.out.row0; have := HF.out.row1; have := HF.out.gr; omega) (HRM.out W k) kv HML.out
    rw [hrow] at q
    exact q
  clear hrow hkl
  have q4 := HQ.out w5.drew (H5.out.kept (Below.refl _ _).drew)
  obtain ⟨u0, u1, u2⟩ := HG.out w5.drew (H5.out.kept (Below.refl _ _).drew)
  go_upto_region 16 with (fail)
  refine wp_region_held_drew (S := fun w' => w'.cell? ⟨w.heap.size, 7, none⟩ = some (.int .i64 s.cur.row)) (by kernel_rfl) q4 (fun hHeld => ?_)
  refine wpAnyH_take (i := 0) (v := ?_) rfl (by kernel_rfl) (by kernel_rfl) (by kernel_rfl) (fun _ _ _ h => h) (Or.inl ⟨by rfl, ?_⟩) (by assumption) ?_
  rotate_left
  · intro w' hSw; first | (go_simp; done) | (go_simp; with_reducible rfl)
  simp only [Act.put, List.getElem_toArray, List.getElem_cons_zero, List.setIfInBounds_toArray, List.set_cons_zero, List.set_cons_succ]
  refine wpAnyH_take (i := 1) (v := ?_) rfl (by kernel_rfl) (by kernel_rfl) (by kernel_rfl) (fun _ _ _ h => h) (Or.inl ⟨by rfl, ?_⟩) (by assumption) ?_
  rotate_left
  · intro w' hSw; first | (go_simp; done) | (go_simp; with_reducible rfl)
  simp only [Act.put, List.getElem_toArray, List.getElem_cons_zero, List.getElem_cons_succ, List.setIfInBounds_toArray, List.set_cons_zero, List.set_cons_succ]
  refine wpAnyH_take (i := 2) (v := ?_) rfl (by kernel_rfl) (by kernel_rfl) (by kernel_rfl) (fun _ _ _ h => h) (Or.inl ⟨by rfl, ?_⟩) (by assumption) ?_
  rotate_left
  · intro w' hSw; first | (go_simp; done) | (go_simp; with_reducible rfl)
  simp only [Act.put, List.getElem_toArray, List.getElem_cons_zero, List.getElem_cons_succ, List.setIfInBounds_toArray, List.set_cons_zero, List.set_cons_succ]
  refine wpAnyH_take (i := 4) (v := ?_) rfl (by kernel_rfl) (by kernel_rfl) (by kernel_rfl) (fun _ _ _ h => h) (Or.inl ⟨by rfl, ?_⟩) (by assumption) ?_
  rotate_left
  · intro w' hSw; first | (go_simp; done) | (go_simp; with_reducible rfl)
  simp only [Act.put, List.getElem_toArray, List.getElem_cons_zero, List.getElem_cons_succ, List.setIfInBounds_toArray, List.set_cons_zero, List.set_cons_succ]
  refine wpAnyH_take (i := 5) (v := ?_) rfl (by kernel_rfl) (by kernel_rfl) (by kernel_rfl) (fun _ _ _ h => h) (Or.inl ⟨by rfl, ?_⟩) (by assumption) ?_
  rotate_left
  · intro w' hSw; first | (go_simp; done) | (go_simp; with_reducible rfl)
  simp only [Act.put, List.getElem_toArray, List.getElem_cons_zero, List.getElem_cons_succ, List.setIfInBounds_toArray, List.set_cons_zero, List.set_cons_succ]
  refine wpAnyH_take (i := 6) (v := ?_) rfl (by kernel_rfl) (by kernel_rfl) (by kernel_rfl) (fun _ _ _ h => h) (Or.inl ⟨by rfl, ?_⟩) (by assumption) ?_
  rotate_left
  · intro w' hSw; first | (go_simp; done) | (go_simp; with_reducible rfl)
  simp only [Act.put, List.getElem_toArray, List.getElem_cons_zero, List.getElem_cons_succ, List.setIfInBounds_toArray, List.set_cons_zero, List.set_cons_succ]
  refine wpAnyH_take (i := 7) (v := ?_) rfl (by kernel_rfl) (by kernel_rfl) (by kernel_rfl) (fun _ _ _ h => h) (Or.inl ⟨by rfl, ?_⟩) (by assumption) ?_
  rotate_left
  · intro w' hSw; first | (go_simp; done) | (go_simp; with_reducible rfl)
  simp only [Act.put, List.getElem_toArray, List.getElem_cons_zero, List.getElem_cons_succ, List.setIfInBounds_toArray, List.set_cons_zero, List.set_cons_succ]
  refine wpAnyH_take (i := 8) (v := ?_) rfl (by kernel_rfl) (by kernel_rfl) (by kernel_rfl) (fun _ _ _ h => h) (Or.inl ⟨by rfl, ?_⟩) (by assumption) ?_
  rotate_left
  · intro w' hSw; first | (go_simp; done) | (go_simp; with_reducible rfl)
  simp only [Act.put, List.getElem_toArray, List.getElem_cons_zero, List.getElem_cons_succ, List.setIfInBounds_toArray, List.set_cons_zero, List.set_cons_succ]
  refine wpAnyH_take (i := 10) (v := ?_) rfl (by kernel_rfl) (by kernel_rfl) (by kernel_rfl) (fun _ _ _ h => h) (Or.inl ⟨by rfl, ?_⟩) (by assumption) ?_
  rotate_left
  · intro w' hSw; first | (go_simp; done) | (go_simp; with_reducible rfl)
  simp only [Act.put, List.getElem_toArray, List.getElem_cons_zero, List.getElem_cons_succ, List.setIfInBounds_toArray, List.set_cons_zero, List.set_cons_succ]
  refine wpAnyH_take (i := 11) (v := ?_) rfl (by kernel_rfl) (by kernel_rfl) (by kernel_rfl) (fun _ _ _ h => h) (Or.inl ⟨by rfl, ?_⟩) (by assumption) ?_
  rotate_left
  · intro w' hSw; first | (go_simp; done) | (go_simp; with_reducible rfl)
  simp only [Act.put, List.getElem_toArray, List.getElem_cons_zero, List.getElem_cons_succ, List.setIfInBounds_toArray, List.set_cons_zero, List.set_cons_succ]
  refine wpAnyH_take (i := 12) (v := ?_) rfl (by kernel_rfl) (by kernel_rfl) (by kernel_rfl) (fun _ _ _ h => h) (Or.inl ⟨by rfl, ?_⟩) (by assumption) ?_
  rotate_left
  · intro w' hSw; first | (go_simp; done) | (go_simp; with_reducible rfl)
  simp only [Act.put, List.getElem_toArray, List.getElem_cons_zero, List.getElem_cons_succ, List.setIfInBounds_toArray, List.set_cons_zero, List.set_cons_succ]
  refine wpAnyH_take (i := 14) (v := ?_) rfl (by kernel_rfl) (by kernel_rfl) (by kernel_rfl) (fun _ _ _ h => h) (Or.inl ⟨by rfl, ?_⟩) (by assumption) ?_
  rotate_left
  · intro w' hSw; first | (go_simp; done) | (go_simp; with_reducible rfl)
  simp only [Act.put, List.getElem_toArray, List.getElem_cons_zero, List.getElem_cons_succ, List.setIfInBounds_toArray, List.set_cons_zero, List.set_cons_succ]
  refine wpAnyH_take (i := 15) (v := ?_) rfl (by kernel_rfl) (by kernel_rfl) (by kernel_rfl) (fun _ _ _ h => h) (Or.inl ⟨by rfl, ?_⟩) (by assumption) ?_
  rotate_left
  · intro w' hSw; first | (go_simp; done) | (go_simp; with_reducible rfl)
  simp only [Act.put, List.getElem_toArray, List.getElem_cons_zero, List.getElem_cons_succ, List.setIfInBounds_toArray, List.set_cons_zero, List.set_cons_succ]
  refine wpAnyH_ready (rs := [3, 9]) (by kernel_rfl) (by simp) ?_
  refine AllReadyH.cons rfl (fun K hK => ?_) ?_
  · go_simp
    refine hK.out _ _ q4 (fun hHeld => ?_)
    clear hK K
    refine wpAnyH_ready (rs := [9]) (by kernel_rfl) (by simp) ?_
    refine AllReadyH.cons rfl (fun K hK => ?_) ?_
    · go_simp
      refine hK.out _ _ q4 (fun hHeld => ?_)
      clear hK K
      refine wpAnyH_ready (rs := [13]) (by kernel_rfl) (by simp) ?_
      refine AllReadyH.cons rfl (fun K hK => ?_) ?_
      · go_simp
        go_at_call 88
        refine (HAT.out w5.drew (H5.out.kept (Below.refl _ _).drew)).mono ?_; rintro e w6 ⟨v6, rfl, ho, hb⟩
        have H6 := Lib.hid (H5.out.kept ((Below.refl _ _).drew.trans hb))
        obtain ⟨A6, c6, rfl, _⟩ := ho.cs.form
        have HV6 := Lib.hid ho.cs
        have qc1 := HQ.out w6 H6.out
        obtain ⟨t0, t1, t2⟩ := HG.out w6 H6.out
        clear ho hb
        refine hK.out _ _ qc1 (fun hHeld => ?_)
        clear hK K
        refine wpAnyH_ready (rs := [16]) (by kernel_rfl) (by simp) ?_
        refine AllReadyH.cons rfl (fun K hK => ?_) ?_
        · go_simp
          go_at_call 87
          refine (HCM.out w6 (.slice A6 (lineS s).length c6) HV6.out).mono ?_; rintro e w8 ⟨v8, rfl, ho, hb⟩
          have H8 := Lib.hid (H6.out.kept hb)
          obtain ⟨A8, c8, rfl, _⟩ := ho.cs.form
          have HV8 := Lib.hid ho.cs
          have qc2 := HQ.out w8 H8.out
          obtain ⟨v0, v1, v2⟩ := HG.out w8 H8.out
          clear ho hb
          refine hK.out _ _ qc2 (fun hHeld => ?_)
          clear hK K
          refine wpAnyH_ready (rs := [17]) (by kernel_rfl) (by simp) ?_
          refine AllReadyH.cons rfl (fun K hK => ?_) ?_
          · go_simp
            go_at_call 86
            refine (HWT.out w8 _ H8.out HV8.out).mono ?_; rintro e w9 ⟨v9, rfl, ho, hb⟩
            obtain ⟨A', n', c', rfl⟩ : ∃ A n c, v9 = .slice A n c := (by obtain ⟨A, c, e, _⟩ := ho.rm.2; exact ⟨A, _, c, e⟩)
            have H9 := Lib.hid (H8.out.kept hb)
            obtain ⟨x9, y9, h9'⟩ := HPN.out w9 _ (withRow (seenG s) s.cur.row.toNat m) H9.out (ho.low H8.out.pn.up)
            have HZ := Lib.hid h9'
            have qc3 := HQ.out w9 H9.out
            obtain ⟨r0, r1, r2⟩ := HG.out w9 H9.out
            have q8 := HQ4.out _ (withRow (seenG s) s.cur.row.toNat m) _ _ HZ.out
            have f2 : ∀ j, w9.frozen? ⟨w.heap.size, j, none⟩ = false := H9.out.pn.box.free
            clear ho hb h9'
            refine hK.out _ _ qc3 (fun hHeld => ?_)
            clear hK K
            refine wpAnyH_take (i := 18) (v := ?_) rfl (by kernel_rfl) (by kernel_rfl) (by kernel_rfl) (fun _ _ _ h => h) (Or.inl ⟨by rfl, ?_⟩) (by assumption) ?_
            rotate_left
            · intro w' hSw; first | (go_simp; done) | (go_simp; with_reducible rfl)
            simp only [Act.put, List.getElem_toArray, List.getElem_cons_zero, List.getElem_cons_succ, List.setIfInBounds_toArray, List.set_cons_zero, List.set_cons_succ]
            refine wpAnyH_ready (rs := [19]) (by kernel_rfl) (by simp) ?_
            refine AllReadyH.cons rfl (fun K hK => ?_) ?_
            · go_simp
              refine hK.out _ _ q8 (fun hHeld => ?_)
              clear hK K
              refine wpAnyH_done (by kernel_rfl) ?_ _
              first | show Exit.then _ _ _ _ (pput w9 w.heap.size p (withRow (seenG s) s.cur.row.toNat m).rows (withRow (seenG s) s.cur.row.toNat m).cols (.slice A' n' c')) | show Exit.inBlock _ _ _ _ (pput w9 w.heap.size p (withRow (seenG s) s.cur.row.toNat m).rows (withRow (seenG s) s.cur.row.toNat m).cols (.slice A' n' c'))
              clear r0 r1 r2 v0 v1 v2 u0 u1 u2 t0 t1 t2 q4 q8 qc1 qc2 qc3 f2 hHeld HPN HQ HG HRM HAT HCM HWT H5 H6 H8 H9 HV6 HV8
              generalize pput w9 w.heap.size p (withRow (seenG s) s.cur.row.toNat m).rows (withRow (seenG s) s.cur.row.toNat m).cols (.slice A' n' c') = wz at HZ ⊢
              go_wp2_with (first
                | (refine wp_loadS (b := w.heap.size) (s := putG s (withRow (seenG s) s.cur.row.toNat m)) rfl rfl rfl HZ.out.pn.box ?_)
                | (refine wp_storeS (b := w.heap.size + 1) rfl rfl rfl rfl rfl HZ.out.pn.own.in_.one HZ.out.b1 rfl ?_; intro wu hu))
              refine bodyPost_ret (ret1S rfl rfl hu.box) rfl ?_
              rw [HME.out]
              exact ⟨_, _, _, rfl, Own.low (hu.own HZ.out.pn.own (by omega)) (by omega), hu.below _ _ (by omega) HZ.out.bel⟩
            exact AllReadyH.nil
          exact AllReadyH.nil
        exact AllReadyH.nil
      exact AllReadyH.nil
    exact AllReadyH.nil
  refine AllReadyH.cons rfl (fun K hK => ?_) ?_
  · go_simp
    refine hK.out _ _ q4 (fun hHeld => ?_)
    clear hK K
    refine wpAnyH_ready (rs := [3, 13]) (by kernel_rfl) (by simp) ?_
    refine AllReadyH.cons rfl (fun K hK => ?_) ?_
    · go_simp
      refine hK.out _ _ q4 (fun hHeld => ?_)
      clear hK K
      refine wpAnyH_ready (rs := [13]) (by kernel_rfl) (by simp) ?_
      refine AllReadyH.cons rfl (fun K hK => ?_) ?_
      · go_simp
        go_at_call 88
        refine (HAT.out w5.drew (H5.out.kept (Below.refl _ _).drew)).mono ?_; rintro e w6 ⟨v6, rfl, ho, hb⟩
        have H6 := Lib.hid (H5.out.kept ((Below.refl _ _).drew.trans hb))
        obtain ⟨A6, c6, rfl, _⟩ := ho.cs.form
        have HV6 := Lib.hid ho.cs
        have qc1 := HQ.out w6 H6.out
        obtain ⟨t0, t1, t2⟩ := HG.out w6 H6.out
        clear ho hb
        refine hK.out _ _ qc1 (fun hHeld => ?_)
        clear hK K
        refine wpAnyH_ready (rs := [16]) (by kernel_rfl) (by simp) ?_
        refine AllReadyH.cons rfl (fun K hK => ?_) ?_
        · go_simp
          go_at_call 87
          refine (HCM.out w6 (.slice A6 (lineS s).length c6) HV6.out).mono ?_; rintro e w8 ⟨v8, rfl, ho, hb⟩
          have H8 := Lib.hid (H6.out.kept hb)
          obtain ⟨A8, c8, rfl, _⟩ := ho.cs.form
          have HV8 := Lib.hid ho.cs
          have qc2 := HQ.out w8 H8.out
          obtain ⟨v0, v1, v2⟩ := HG.out w8 H8.out
          clear ho hb
          refine hK.out _ _ qc2 (fun hHeld => ?_)
          clear hK K
          refine wpAnyH_ready (rs := [17]) (by kernel_rfl) (by simp) ?_
          refine AllReadyH.cons rfl (fun K hK => ?_) ?_
          · go_simp
            go_at_call 86
            refine (HWT.out w8 _ H8.out HV8.out).mono ?_; rintro e w9 ⟨v9, rfl, ho, hb⟩
            obtain ⟨A', n', c', rfl⟩ : ∃ A n c, v9 = .slice A n c := (by obtain ⟨A, c, e, _⟩ := ho.rm.2; exact ⟨A, _, c, e⟩)
            have H9 := Lib.hid (H8.out.kept hb)
            obtain ⟨x9, y9, h9'⟩ := HPN.out w9 _ (withRow (seenG s) s.cur.row.toNat m) H9.out (ho.low H8.out.pn.up)
            have HZ := Lib.hid h9'
            have qc3 := HQ.out w9 H9.out
            obtain ⟨r0, r1, r2⟩ := HG.out w9 H9.out
            have q8 := HQ4.out _ (withRow (seenG s) s.cur.row.toNat m) _ _ HZ.out
            have f2 : ∀ j, w9.frozen? ⟨w.heap.size, j, none⟩ = false := H9.out.pn.box.free
            clear ho hb h9'
            refine hK.out _ _ qc3 (fun hHeld => ?_)
            clear hK K
            refine wpAnyH_take (i := 18) (v := ?_) rfl (by kernel_rfl) (by kernel_rfl) (by kernel_rfl) (fun _ _ _ h => h) (Or.inl ⟨by rfl, ?_⟩) (by assumption) ?_
            rotate_left
            · intro w' hSw; first | (go_simp; done) | (go_simp; with_reducible rfl)
            simp only [Act.put, List.getElem_toArray, List.getElem_cons_zero, List.getElem_cons_succ, List.setIfInBounds_toArray, List.set_cons_zero, List.set_cons_succ]
            refine wpAnyH_ready (rs := [19]) (by kernel_rfl) (by simp) ?_
            refine AllReadyH.cons rfl (fun K hK => ?_) ?_
            · go_simp
              refine hK.out _ _ q8 (fun hHeld => ?_)
              clear hK K
              refine wpAnyH_done (by kernel_rfl) ?_ _
              first | show Exit.then _ _ _ _ (pput w9 w.heap.size p (withRow (seenG s) s.cur.row.toNat m).rows (withRow (seenG s) s.cur.row.toNat m).cols (.slice A' n' c')) | show Exit.inBlock _ _ _ _ (pput w9 w.heap.size p (withRow (seenG s) s.cur.row.toNat m).rows (withRow (seenG s) s.cur.row.toNat m).cols (.slice A' n' c'))
              clear r0 r1 r2 v0 v1 v2 u0 u1 u2 t0 t1 t2 q4 q8 qc1 qc2 qc3 f2 hHeld HPN HQ HG HRM HAT HCM HWT H5 H6 H8 H9 HV6 HV8
              generalize pput w9 w.heap.size p (withRow (seenG s) s.cur.row.toNat m).rows (withRow (seenG s) s.cur.row.toNat m).cols (.slice A' n' c') = wz at HZ ⊢
              go_wp2_with (first
                | (refine wp_loadS (b := w.heap.size) (s := putG s (withRow (seenG s) s.cur.row.toNat m)) rfl rfl rfl HZ.out.pn.box ?_)
                | (refine wp_storeS (b := w.heap.size + 1) rfl rfl rfl rfl rfl HZ.out.pn.own.in_.one HZ.out.b1 rfl ?_; intro wu hu))
              refine bodyPost_ret (ret1S rfl rfl hu.box) rfl ?_
              rw [HME.out]
              exact ⟨_, _, _, rfl, Own.low (hu.own HZ.out.pn.own (by omega)) (by omega), hu.below _ _ (by omega) HZ.out.bel⟩
            exact AllReadyH.nil
          exact AllReadyH.nil
        exact AllReadyH.nil
      exact AllReadyH.nil
    refine AllReadyH.cons rfl (fun K hK => ?_) ?_
    · go_simp
      go_at_call 88
      refine (HAT.out w5.drew (H5.out.kept (Below.refl _ _).drew)).mono ?_; rintro e w6 ⟨v6, rfl, ho, hb⟩
      have H6 := Lib.hid (H5.out.kept ((Below.refl _ _).drew.trans hb))
      obtain ⟨A6, c6, rfl, _⟩ := ho.cs.form
      have HV6 := Lib.hid ho.cs
      have qc1 := HQ.out w6 H6.out
      obtain ⟨t0, t1, t2⟩ := HG.out w6 H6.out
      clear ho hb
      refine hK.out _ _ qc1 (fun hHeld => ?_)
      clear hK K
      refine wpAnyH_ready (rs := [3, 16]) (by kernel_rfl) (by simp) ?_
      refine AllReadyH.cons rfl (fun K hK => ?_) ?_
      · go_simp
        refine hK.out _ _ qc1 (fun hHeld => ?_)
        clear hK K
        refine wpAnyH_ready (rs := [16]) (by kernel_rfl) (by simp) ?_
        refine AllReadyH.cons rfl (fun K hK => ?_) ?_
        · go_simp
          go_at_call 87
          refine (HCM.out w6 (.slice A6 (lineS s).length c6) HV6.out).mono ?_; rintro e w8 ⟨v8, rfl, ho, hb⟩
          have H8 := Lib.hid (H6.out.kept hb)
          obtain ⟨A8, c8, rfl, _⟩ := ho.cs.form
          have HV8 := Lib.hid ho.cs
          have qc2 := HQ.out w8 H8.out
          obtain ⟨v0, v1, v2⟩ := HG.out w8 H8.out
          clear ho hb
          refine hK.out _ _ qc2 (fun hHeld => ?_)
          clear hK K
          refine wpAnyH_ready (rs := [17]) (by kernel_rfl) (by simp) ?_
          refine AllReadyH.cons rfl (fun K hK => ?_) ?_
          · go_simp
            go_at_call 86
            refine (HWT.out w8 _ H8.out HV8.out).mono ?_; rintro e w9 ⟨v9, rfl, ho, hb⟩
            obtain ⟨A', n', c', rfl⟩ : ∃ A n c, v9 = .slice A n c := (by obtain ⟨A, c, e, _⟩ := ho.rm.2; exact ⟨A, _, c, e⟩)
            have H9 := Lib.hid (H8.out.kept hb)
            obtain ⟨x9, y9, h9'⟩ := HPN.out w9 _ (withRow (seenG s) s.cur.row.toNat m) H9.out (ho.low H8.out.pn.up)
            have HZ := Lib.hid h9'
            have qc3 := HQ.out w9 H9.out
            obtain ⟨r0, r1, r2⟩ := HG.out w9 H9.out
            have q8 := HQ4.out _ (withRow (seenG s) s.cur.row.toNat m) _ _ HZ.out
            have f2 : ∀ j, w9.frozen? ⟨w.heap.size, j, none⟩ = false := H9.out.pn.box.free
            clear ho hb h9'
            refine hK.out _ _ qc3 (fun hHeld => ?_)
            clear hK K
            refine wpAnyH_take (i := 18) (v := ?_) rfl (by kernel_rfl) (by kernel_rfl) (by kernel_rfl) (fun _ _ _ h => h) (Or.inl ⟨by rfl, ?_⟩) (by assumption) ?_
            rotate_left
            · intro w' hSw; first | (go_simp; done) | (go_simp; with_reducible rfl)
            simp only [Act.put, List.getElem_toArray, List.getElem_cons_zero, List.getElem_cons_succ, List.setIfInBounds_toArray, List.set_cons_zero, List.set_cons_succ]
            refine wpAnyH_ready (rs := [19]) (by kernel_rfl) (by simp) ?_
            refine AllReadyH.cons rfl (fun K hK => ?_) ?_
            · go_simp
              refine hK.out _ _ q8 (fun hHeld => ?_)
              clear hK K
              refine wpAnyH_done (by kernel_rfl) ?_ _
              first | show Exit.then _ _ _ _ (pput w9 w.heap.size p (withRow (seenG s) s.cur.row.toNat m).rows (withRow (seenG s) s.cur.row.toNat m).cols (.slice A' n' c')) | show Exit.inBlock _ _ _ _ (pput w9 w.heap.size p (withRow (seenG s) s.cur.row.toNat m).rows (withRow (seenG s) s.cur.row.toNat m).cols (.slice A' n' c'))
              clear r0 r1 r2 v0 v1 v2 u0 u1 u2 t0 t1 t2 q4 q8 qc1 qc2 qc3 f2 hHeld HPN HQ HG HRM HAT HCM HWT H5 H6 H8 H9 HV6 HV8
              generalize pput w9 w.heap.size p (withRow (seenG s) s.cur.row.toNat m).rows (withRow (seenG s) s.cur.row.toNat m).cols (.slice A' n' c') = wz at HZ ⊢
              go_wp2_with (first
                | (refine wp_loadS (b := w.heap.size) (s := putG s (withRow (seenG s) s.cur.row.toNat m)) rfl rfl rfl HZ.out.pn.box ?_)
                | (refine wp_storeS (b := w.heap.size + 1) rfl rfl rfl rfl rfl HZ.out.pn.own.in_.one HZ.out.b1 rfl ?_; intro wu hu))
              refine bodyPost_ret (ret1S rfl rfl hu.box) rfl ?_
              rw [HME.out]
              exact ⟨_, _, _, rfl, Own.low (hu.own HZ.out.pn.own (by omega)) (by omega), hu.below _ _ (by omega) HZ.out.bel⟩
            exact AllReadyH.nil
          exact AllReadyH.nil
        exact AllReadyH.nil
      refine AllReadyH.cons rfl (fun K hK => ?_) ?_
      · go_simp
        go_at_call 87
        refine (HCM.out w6 (.slice A6 (lineS s).length c6) HV6.out).mono ?_; rintro e w8 ⟨v8, rfl, ho, hb⟩
        have H8 := Lib.hid (H6.out.kept hb)
        obtain ⟨A8, c8, rfl, _⟩ := ho.cs.form
        have HV8 := Lib.hid ho.cs
        have qc2 := HQ.out w8 H8.out
        obtain ⟨v0, v1, v2⟩ := HG.out w8 H8.out
        clear ho hb
        refine hK.out _ _ qc2 (fun hHeld => ?_)
        clear hK K
        refine wpAnyH_ready (rs := [3]) (by kernel_rfl) (by simp) ?_
        refine AllReadyH.cons rfl (fun K hK => ?_) ?_
        · go_simp
          refine hK.out _ _ qc2 (fun hHeld => ?_)
          clear hK K
          refine wpAnyH_ready (rs := [17]) (by kernel_rfl) (by simp) ?_
          refine AllReadyH.cons rfl (fun K hK => ?_) ?_
          · go_simp
            go_at_call 86
            refine (HWT.out w8 _ H8.out HV8.out).mono ?_; rintro e w9 ⟨v9, rfl, ho, hb⟩
            obtain ⟨A', n', c', rfl⟩ : ∃ A n c, v9 = .slice A n c := (by obtain ⟨A, c, e, _⟩ := ho.rm.2; exact ⟨A, _, c, e⟩)
            have H9 := Lib.hid (H8.out.kept hb)
            obtain ⟨x9, y9, h9'⟩ := HPN.out w9 _ (withRow (seenG s) s.cur.row.toNat m) H9.out (ho.low H8.out.pn.up)
            have HZ := Lib.hid h9'
            have qc3 := HQ.out w9 H9.out
            obtain ⟨r0, r1, r2⟩ := HG.out w9 H9.out
            have q8 := HQ4.out _ (withRow (seenG s) s.cur.row.toNat m) _ _ HZ.out
            have f2 : ∀ j, w9.frozen? ⟨w.heap.size, j, none⟩ = false := H9.out.pn.box.free
            clear ho hb h9'
            refine hK.out _ _ qc3 (fun hHeld => ?_)
            clear hK K
            refine wpAnyH_take (i := 18) (v := ?_) rfl (by kernel_rfl) (by kernel_rfl) (by kernel_rfl) (fun _ _ _ h => h) (Or.inl ⟨by rfl, ?_⟩) (by assumption) ?_
            rotate_left
            · intro w' hSw; first | (go_simp; done) | (go_simp; with_reducible rfl)
            simp only [Act.put, List.getElem_toArray, List.getElem_cons_zero, List.getElem_cons_succ, List.setIfInBounds_toArray, List.set_cons_zero, List.set_cons_succ]
            refine wpAnyH_ready (rs := [19]) (by kernel_rfl) (by simp) ?_
            refine AllReadyH.cons rfl (fun K hK => ?_) ?_
            · go_simp
              refine hK.out _ _ q8 (fun hHeld => ?_)
              clear hK K
              refine wpAnyH_done (by kernel_rfl) ?_ _
              first | show Exit.then _ _ _ _ (pput w9 w.heap.size p (withRow (seenG s) s.cur.row.toNat m).rows (withRow (seenG s) s.cur.row.toNat m).cols (.slice A' n' c')) | show Exit.inBlock _ _ _ _ (pput w9 w.heap.size p (withRow (seenG s) s.cur.row.toNat m).rows (withRow (seenG s) s.cur.row.toNat m).cols (.slice A' n' c'))
              clear r0 r1 r2 v0 v1 v2 u0 u1 u2 t0 t1 t2 q4 q8 qc1 qc2 qc3 f2 hHeld HPN HQ HG HRM HAT HCM HWT H5 H6 H8 H9 HV6 HV8
              generalize pput w9 w.heap.size p (withRow (seenG s) s.cur.row.toNat m).rows (withRow (seenG s) s.cur.row.toNat m).cols (.slice A' n' c') = wz at HZ ⊢
              go_wp2_with (first
                | (refine wp_loadS (b := w.heap.size) (s := putG s (withRow (seenG s) s.cur.row.toNat m)) rfl rfl rfl HZ.out.pn.box ?_)
                | (refine wp_storeS (b := w.heap.size + 1) rfl rfl rfl rfl rfl HZ.out.pn.own.in_.one HZ.out.b1 rfl ?_; intro wu hu))
              refine bodyPost_ret (ret1S rfl rfl hu.box) rfl ?_
              rw [HME.out]
              exact ⟨_, _, _, rfl, Own.low (hu.own HZ.out.pn.own (by omega)) (by omega), hu.below _ _ (by omega) HZ.out.bel⟩
            exact AllReadyH.nil
          exact AllReadyH.nil
        exact AllReadyH.nil
      exact AllReadyH.nil
    exact AllReadyH.nil
  exact AllReadyH.nil
end Scr
end Go.Proofs.YtceaoadlhdgnmaaGreatDoor
