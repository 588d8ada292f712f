/- The page's Print: a wide rune, on every screen. -/
import Derived.Test.YtceaoadlhdgnmaaGreatDoorMRestS
import Derived.Test.YtceaoadlhdgnmaaGreatDoorM112
import Derived.Deep.RegionLaw
import Derived.Deep.RegionHeld3
import Derived.Deep.CutRange
import Derived.Deep.DeepCutAuto
import Derived.BigRegion
import Derived.BigQuiet
import Derived.Test.YtceaoadlhdgnmaaGreatDoorPrnRefW
namespace Go.Proofs.YtceaoadlhdgnmaaGreatDoor
set_option maxRecDepth 100000
open Go.RowKit
namespace Scr
open Go.Proofs.YtceaoadlhdgnmaaGreatDoor.Row Wid

theorem body_is2 {T : S} {G : Gr} {r r' c : Int} {q : Bool} {m : List Cl} (hsh : shownS T.cur r = r') (hm : mid (roomS T 2) T.cur.col.toNat (T.cur.col.toNat + 2) (cellsOf r' T.cur.a) = m) (hG : withRow (seenG T) T.cur.row.toNat m = G)
    (hc : min (T.cur.col + 2) (T.main.cols - 1) = c) (hq : (decide (T.cur.col + 2 = T.main.cols) && hasB T.modes 1) = q) : bodyS T r 2 = lastIs (atPW (putG (noWrap T) G) c q) r := by
  unfold bodyS
  rw [hsh, hm]
  show passed (putG T (withRow (seenG T) T.cur.row.toNat m)) (min (T.cur.col + 2) (T.main.cols - 1)) (decide (T.cur.col + 2 = T.main.cols) && hasB T.modes 1) r = _
  rw [hG, hc, hq]
  unfold passed lastIs atPW putG
  rw [show (noWrap T).swapped = T.swapped from rfl]
  by_cases hs : T.swapped = true
  · rw [if_pos hs, if_pos hs]; rfl
  · rw [if_neg hs, if_neg hs]; rfl
set_option maxHeartbeats 6400000 in
theorem refPrint_wide (s : S) (x y z : Value) (r : Int) (w : World) (h : In w s x y z) (hok : Ok s) (hr : wid r = 2) :
    Calls Tryz.prog 35 #[sv s x y z, .int .i64 r] w fun e w' => ∃ x' y' z', e = .returned (sv (writeS s r 2) x' y' z') ∧ Own w' w.heap.size (writeS s r 2) x' y' z' ∧ Below w.heap.size w w' := by
  have HI := Lib.hid h
  have HF := Lib.hid hok.facts
  have H0 := Lib.hid (Rz.start w s x y z)
  have HL := Lib.hid hok.lens
  have HOK := Lib.hid hok
  have HST := Lib.hid hok.sets
  have HR1 := Lib.hid hr
  have HWD := Lib.hid (fun W => width_any (shownS s.cur r) W)
  rw [shown_wid, hr] at HWD
  clear h hok hr
  go_enter Tryz.func35, Tryz.ntmps35
  go_wp2_with (first
    | (refine wp_allocS1 (w := w) rfl rfl ?_)
    | (refine wp_loadS (b := w.heap.size) (s := s) rfl rfl rfl H0.out.b0 ?_))
  refine (copyScreen_any s x y z _ (HI.out.kept H0.out.bel) HL.out).mono ?_; rintro e w1 ⟨x1, y1, z1, rfl, ho, hb⟩
  have H1 := Lib.hid (H0.out.kept hb)
  have HO1 := Lib.hid (ho.low H0.out.up)
  clear ho hb H0 HI
  have HCX : Hid (∀ W, Pb w s x1 y1 z1 W → W.cell? ⟨w.heap.size, 1, none⟩ = some (.int .i64 s.main.cols) ∧ W.cell? ⟨w.heap.size, 8, none⟩ = some (.int .i64 s.cur.col) ∧ W.cell? ⟨w.heap.size, 9, none⟩ = some (.bool s.cur.wrap) ∧ W.cell? ⟨w.heap.size, 13, none⟩ = some (.int .i64 s.cur.g0) ∧ W.cell? ⟨w.heap.size, 14, none⟩ = some (.int .i64 s.cur.g1) ∧ W.cell? ⟨w.heap.size, 15, none⟩ = some (.int .i64 s.cur.shift) ∧ W.cell? ⟨w.heap.size, 40, none⟩ = some (.int .i64 s.modes)) := Lib.hid fun W k =>
    ⟨k.pn.box.cell 1, k.pn.box.cell 8, k.pn.box.cell 9, k.pn.box.cell 13, k.pn.box.cell 14, k.pn.box.cell 15, k.pn.box.cell 40⟩
  go_upto_if 23 with (refine wp_storeS_then (b := w.heap.size) (A := sarr s x1 y1 z1) (T := Pb w s x1 y1 z1) rfl rfl rfl rfl rfl HO1.out.in_.one H1.out.b0 rfl (fun _ k => Pb.start H1.out HO1.out k) ?_; intro w2 H2; obtain ⟨b1, b8, b9, b13, b14, b15, b40⟩ := HCX.out w2 H2.out)
  clear H1 HO1
  go_cut [6] from 20 to 26 (fun s6 wx => s6 = .int .i64 (setOf s.cur) ∧ Hid (Pb w s x1 y1 z1 wx))
  case first =>
    rcases HST.out.1 with hs | hs
    · have HE : Hid (setOf s.cur = s.cur.g0) := Lib.hid (by unfold setOf; rw [if_pos hs])
      rw [hs] at b15
      go_wp2_with fail
      go_meet
      exact ⟨by rw [HE.out], H2⟩
    · have HE : Hid (setOf s.cur = s.cur.g1) := Lib.hid (by unfold setOf; rw [if_neg (by omega)])
      rw [hs] at b15
      go_wp2_with fail
      go_meet
      exact ⟨by rw [HE.out], H2⟩
  case rest =>
  obtain ⟨rfl, H3⟩ := hcut
  rename World => w3
  clear b1 b8 b9 b13 b14 b15 b40 H2
  obtain ⟨bb, hbb⟩ : ∃ b, (decide (setOf s.cur = 1) && rng r 96 126) = b := ⟨_, rfl⟩
  have HBB := Lib.hid hbb
  clear hbb
  go_upto_region 6 with (fail)
  go_cut [6, 32] from 27 to 32 (fun s6 s32 wx => s6 = .int .i64 (setOf s.cur) ∧ s32 = .bool bb ∧ Hid (Pb w s x1 y1 z1 wx))
  case first =>
    have HBT := Lib.hid (fun W => between_any r 96 126 W)
    rcases HST.out.2 with hs | hs
    · have HE : Hid (bb = false) := Lib.hid (by rw [← HBB.out, hs]; rfl)
      rw [hs]
      go_wp2_with fail
      go_meet
      exact ⟨by rw [hs], by rw [HE.out], H3⟩
    · have HE : Hid (bb = rng r 96 126) := Lib.hid (by rw [← HBB.out, hs]; rfl)
      rw [hs]
      go_wp2_with fail
      refine (HBT.out _).mono ?_; rintro e w4 ⟨rfl, rfl⟩
      go_wp2_with fail
      go_meet
      exact ⟨by rw [hs], by rw [HE.out], H3⟩
  case rest =>
  obtain ⟨rfl, rfl, H4⟩ := hcut
  rename World => w4
  clear H3
  go_upto_if 32 with (fail)
  go_cut [1] from 33 to 37 (fun s1 wx => s1 = .int .i64 (shownS s.cur r) ∧ Hid (Pb w s x1 y1 z1 wx))
  case first =>
    cases bb
    · have HE : Hid (shownS s.cur r = r) := Lib.hid (by
        unfold shownS
        split
        · rename_i hs
          have q := HBB.out
          rw [hs] at q
          refine drawn_no (Classical.byContradiction fun c => ?_)
          rw [show rng r 96 126 = true from rng_iff.2 (by omega)] at q
          cases q
        · rfl)
      go_wp2_with fail
      go_meet
      exact ⟨by rw [HE.out], H4⟩
    · have q := HBB.out
      rw [Bool.and_eq_true, decide_eq_true_eq] at q
      have hj := rng_iff.1 q.2
      have HE : Hid (shownS s.cur r = drawnAt r) := Lib.hid (by unfold shownS; rw [if_pos q.1])
      obtain ⟨j, rfl⟩ : ∃ j : Nat, r = 96 + (j : Int) := ⟨(r - 96).toNat, by omega⟩
      have hj31 : j < 31 := by omega
      have HY := Lib.hid (drawn_yes hj31 rfl)
      have hw96 : IntKind.i64.wrap (96 + (j : Int) - 96) = (j : Int) := by rw [IntKind.wrap_i64]; omega
      clear q hj HBB
      go_wp2_with fail
      refine (lines_any _).mono ?_; rintro e w5 ⟨⟨c, rfl⟩, hc, hb⟩
      have H5 := Lib.hid (H4.out.kept hb)
      have hcj := hc.out j hj31
      clear hb hc
      go_wp2_with fail
      go_meet
      exact ⟨by rw [HE.out, HY.out, List.getD_eq_getElem?_getD], H5⟩
  case rest =>
  obtain ⟨rfl, H6⟩ := hcut
  rename World => w6
  clear H4 w4
  have H4 := H6
  clear H6
  obtain ⟨b1, b8, b9, b13, b14, b15, b40⟩ := HCX.out w6 H4.out
  go_wp2_with fail
  refine (HWD.out w6).mono ?_; rintro e w5 ⟨rfl, hb⟩
  have H5 := Lib.hid (H4.out.kept hb)
  clear hb b1 b8 b9 b13 b14 b15 b40 H4 HWD
  obtain ⟨b1, b8, b9, b13, b14, b15, b40⟩ := HCX.out w5 H5.out
  obtain ⟨k1, hk1⟩ : ∃ k, (bits .and .i64 s.modes 1 == 0) = k := ⟨_, rfl⟩
  obtain ⟨k2, hk2⟩ : ∃ k, s.cur.wrap = k := ⟨_, rfl⟩
  rw [hk2] at b9
  have HK1 := Lib.hid hk1
  obtain ⟨T0, hT⟩ : ∃ T0, (bif !k1 && k2 then wrapS s else s) = T0 := ⟨_, rfl⟩
  obtain ⟨due, hdue⟩ : ∃ q, (!k1 && k2) = q := ⟨_, rfl⟩
  have HDU := Lib.hid hdue
  have hT' : (bif due then wrapS s else s) = T0 := by rw [← hdue]; exact hT
  clear hdue hT
  by_cases hc1 : s.main.cols = 1
  · have HE : Hid (writeS s r 2 = s) := Lib.hid (by unfold writeS; rw [if_pos (.inl (by omega))])
    have hcb : (s.main.cols == 1) = true := by rw [hc1]; rfl
    clear hT' hk1 hk2 HK1 HDU HCX HST HF HL HR1
    go_wp2_with (first
      | (refine wp_loadS (b := w.heap.size) (s := s) (x0 := x1) (y0 := y1) (z0 := z1) rfl rfl rfl H5.out.pn.box ?_)
      | (refine wp_storeS (b := w.heap.size + 1) rfl rfl rfl rfl rfl H5.out.pn.own.in_.one H5.out.b1 rfl ?_; intro wu hu))
    refine bodyPost_ret (ret1S rfl rfl hu.box) rfl ?_
    rw [HE.out]
    exact ⟨_, _, _, rfl, Own.low (hu.own H5.out.pn.own (by omega)) (by omega), hu.below _ _ (by omega) H5.out.bel⟩
  have HC1 := Lib.hid hc1
  have hcb : (s.main.cols == 1) = false := by rw [beq_eq_false_iff_ne]; exact hc1
  go_upto_region 21 with (fail)
  go_cut [93] from 88 to 93 (fun s93 wx => s93 = .bool due ∧ Hid (Pb w s x1 y1 z1 wx))
  case first =>
    cases k2
    · have HE : Hid (due = false) := Lib.hid (by rw [← HDU.out]; cases k1 <;> rfl)
      go_wp2_with fail
      go_meet
      exact ⟨by rw [HE.out], H5⟩
    · have HE : Hid (due = !k1) := Lib.hid (by rw [← HDU.out]; cases k1 <;> rfl)
      go_wp2_with fail
      go_meet
      exact ⟨by rw [HE.out, ← HK1.out]; rfl, H5⟩
  case rest =>
  obtain ⟨rfl, H6⟩ := hcut
  rename World => w6
  clear H5 b1 b8 b9 b13 b14 b15 b40 w5
  go_upto_if 93 with (fail)
  go_cut [] from 94 to 97 (fun wx => ∃ xt yt zt, Hid (Pb w T0 xt yt zt wx))
  case first =>
    have HUP := Lib.hid H6.out.pn.up
    cases due
    · have hT : s = T0 := hT'
      subst hT
      go_wp2_with fail
      go_meet
      exact ⟨_, _, _, H6⟩
    · have hT : wrapS s = T0 := hT'
      subst hT
      go_wp2_with (refine wp_loadS (b := w.heap.size) (s := s) (x0 := x1) (y0 := y1) (z0 := z1) rfl rfl rfl H6.out.pn.box ?_)
      refine (refDown8 s x1 y1 z1 w6 H6.out.pn.own.in_ HOK.out).mono ?_; rintro e w7 ⟨x3, y3, z3, rfl, ho, hb⟩
      have H7 := Lib.hid (H6.out.kept hb)
      have HO7 := Lib.hid ho
      clear ho hb
      go_upto_region 23 with (refine wp_storeS_then (b := w.heap.size) (A := sarr (downS s) x3 y3 z3) (T := Pb w (downS s) x3 y3 z3) rfl rfl rfl rfl rfl HO7.out.in_.one H7.out.pn.box rfl (fun _ k => (H7.out.putW HO7.out HUP.out k).1) ?_; intro w8 H8)
      clear H6 H7 HO7
      have c8 : w8.cell? ⟨w.heap.size, 8, none⟩ = some (.int .i64 (downS s).cur.col) := H8.out.pn.box.cell 8
      have f8 : w8.frozen? ⟨w.heap.size, 8, none⟩ = false := H8.out.pn.box.free 8
      go_wp2_with fail
      go_meet
      exact ⟨_, _, _, Lib.hid H8.out.first0⟩
  case rest =>
  obtain ⟨x3, y3, z3, H7⟩ := hcut
  rename World => w7
  clear H6 w6
  have HT0 : Hid ((due = true → T0.cur.col = 0) ∧ Ok T0 ∧ T0.main.cols = s.main.cols ∧ T0.modes = s.modes ∧ setOf T0.cur = setOf s.cur) := Lib.hid (by
    cases due with
    | true =>
      have hT : wrapS s = T0 := hT'
      rw [← hT]
      have d := down_same HOK.out
      exact ⟨fun _ => rfl, wrapS_ok HOK.out, d.2.2.2.2.2.1, d.1, d.2.2.2.2.1⟩
    | false =>
      have hT : s = T0 := hT'
      rw [← hT]
      exact ⟨fun q => by (cases q), HOK.out, rfl, rfl, rfl⟩)
  obtain ⟨e2, he2⟩ : ∃ b, (T0.cur.col == s.main.cols - 1) = b := ⟨_, rfl⟩
  have HE2 := Lib.hid he2
  have hwd1 : IntKind.i64.wrap (s.main.cols - 1) = s.main.cols - 1 := by have f := HF.out; have := f.c1; have := f.c40; rw [IntKind.wrap_i64]; omega
  have c8 : w7.cell? ⟨w.heap.size, 8, none⟩ = some (.int .i64 T0.cur.col) := H7.out.pn.box.cell 8
  have HDE : Hid (due = true → e2 = false) := Lib.hid (fun q => by
    rw [← HE2.out, HT0.out.1 q, beq_eq_false_iff_ne]
    have := HC1.out
    omega)
  by_cases hR : e2 = true ∧ k1 = true
  · have hdf : due = false := by
      cases due
      · rfl
      · have := HDE.out rfl; rw [hR.1] at this; cases this
    obtain ⟨rfl, rfl⟩ := hR
    subst hdf
    have hT : s = T0 := hT'
    subst hT
    have HE : Hid (writeS s r 2 = s) := Lib.hid (by
      unfold writeS
      refine if_pos (.inr ⟨?_, ?_⟩)
      · have q := HE2.out; rw [beq_iff_eq] at q; omega
      · unfold hasB; rw [HK1.out]; rfl)
    have hkn : (bits .and .i64 s.modes 1 != 0) = false := by unfold bne; rw [HK1.out]; rfl
    clear hT' HCX HST HF HL HR1 HDU HT0 HDE HE2
    go_wp2_with (first
      | (refine wp_loadS (b := w.heap.size) (s := s) (x0 := x3) (y0 := y3) (z0 := z3) rfl rfl rfl H7.out.pn.box ?_)
      | (refine wp_storeS (b := w.heap.size + 1) rfl rfl rfl rfl rfl H7.out.pn.own.in_.one H7.out.b1 rfl ?_; intro wu hu))
    refine bodyPost_ret (ret1S rfl rfl hu.box) rfl ?_
    rw [HE.out]
    exact ⟨_, _, _, rfl, Own.low (hu.own H7.out.pn.own (by omega)) (by omega), hu.below _ _ (by omega) H7.out.bel⟩
  obtain ⟨T, hT2⟩ : ∃ T, (bif e2 then wrapS T0 else T0) = T := ⟨_, rfl⟩
  have HKE : Hid (e2 = true → k1 = false) := Lib.hid (fun q => by
    cases k1
    · rfl
    · exact absurd ⟨q, rfl⟩ hR)
  clear hR
  go_upto_if 107 with (fail)
  go_cut [11] from 80 to 114 (fun s11 wx => s11 = .bool (bits .and .i64 s.modes 1 != 0) ∧ ∃ xt yt zt, Hid (Pb w T xt yt zt wx))
  case first =>
    have HUP := Lib.hid H7.out.pn.up
    cases e2
    · have hT : T0 = T := hT2
      subst hT
      go_wp2_with fail
      go_meet
      exact ⟨rfl, _, _, _, H7⟩
    · have hT : wrapS T0 = T := hT2
      subst hT
      have hkf : k1 = false := HKE.out rfl
      subst hkf
      have hkn : (bits .and .i64 s.modes 1 != 0) = true := by unfold bne; rw [HK1.out]; rfl
      go_wp2_with (refine wp_loadS (b := w.heap.size) (s := T0) (x0 := x3) (y0 := y3) (z0 := z3) rfl rfl rfl H7.out.pn.box ?_)
      refine (refDown8 T0 x3 y3 z3 w7 H7.out.pn.own.in_ HT0.out.2.1).mono ?_; rintro e w8 ⟨x4, y4, z4, rfl, ho, hb⟩
      have H8 := Lib.hid (H7.out.kept hb)
      have HO8 := Lib.hid ho
      clear ho hb
      go_upto_region 28 with (refine wp_storeS_then (b := w.heap.size) (A := sarr (downS T0) x4 y4 z4) (T := Pb w (downS T0) x4 y4 z4) rfl rfl rfl rfl rfl HO8.out.in_.one H8.out.pn.box rfl (fun _ k => (H8.out.putW HO8.out HUP.out k).1) ?_; intro w9 H9)
      clear H7 H8 HO8
      have d8 : w9.cell? ⟨w.heap.size, 8, none⟩ = some (.int .i64 (downS T0).cur.col) := H9.out.pn.box.cell 8
      have f8 : w9.frozen? ⟨w.heap.size, 8, none⟩ = false := H9.out.pn.box.free 8
      go_wp2_with fail
      go_meet
      exact ⟨by rw [hkn], _, _, _, Lib.hid H9.out.first0⟩
  case rest =>
  obtain ⟨rfl, x3, y3, z3, H9⟩ := hcut
  clear H7 c8 w7
  rename World => w7
  have H7 := H9
  clear H9
  have HX : Hid (Ok T ∧ T.modes = s.modes ∧ T.main.cols = s.main.cols ∧ T.cur.col + 2 ≤ T.main.cols ∧ setOf T.cur = setOf s.cur ∧ writeS s r 2 = bodyS T r 2) := Lib.hid (by
    have f := HOK.out.facts
    have hn1 := HC1.out
    have hcols := f.c1
    have hb : hasB s.modes 1 = !k1 := by unfold hasB; rw [HK1.out]
    have g := HT0.out
    have e2q := HE2.out
    have w2 : ∀ X, Ok X → X.main.cols = s.main.cols → (wrapS X).cur.col + 2 ≤ (wrapS X).main.cols := fun X hX hc => wrap_fits hX (n := 2) (by omega)
    have kd := HDU.out
    have hT3 := hT2
    cases e2 with
    | true =>
      have kk := HKE.out rfl
      have hdf : due = false := by
        cases due
        · rfl
        · have := HDE.out rfl; cases this
      subst hdf
      have hT : s = T0 := hT'
      subst hT
      have hU : wrapS s = T := hT3
      rw [← hU]
      have d := down_same HOK.out
      rw [beq_iff_eq] at e2q
      refine ⟨wrapS_ok HOK.out, d.1, d.2.2.2.2.2.1, w2 s HOK.out rfl, d.2.2.2.2.1, ?_⟩
      unfold writeS
      rw [if_neg, if_pos]
      · exact ⟨by rw [hb, kk]; rfl, .inr (by omega)⟩
      · rintro (q | ⟨_, q⟩)
        · omega
        · rw [hb, kk] at q; cases q
    | false =>
      have hU : T0 = T := hT3
      rw [← hU]
      cases due with
      | true =>
        have hT : wrapS s = T0 := hT'
        rw [Bool.and_eq_true] at kd
        refine ⟨g.2.1, g.2.2.2.1, g.2.2.1, by rw [← hT]; exact w2 s HOK.out rfl, g.2.2.2.2, ?_⟩
        unfold writeS
        rw [if_neg, if_pos, hT]
        · exact ⟨by rw [hb]; exact kd.1, .inl (by rw [hk2]; exact kd.2)⟩
        · rintro (q | ⟨_, q⟩)
          · omega
          · rw [hb, kd.1] at q; cases q
      | false =>
        have hT : s = T0 := hT'
        subst hT
        rw [beq_eq_false_iff_ne] at e2q
        have hc2 := f.col1
        have hfit : s.cur.col + ((2 : Nat) : Int) ≤ s.main.cols := by omega
        refine ⟨HOK.out, rfl, rfl, hfit, rfl, ?_⟩
        unfold writeS
        rw [if_neg, if_neg]
        · rintro ⟨h1, h2⟩
          rw [hb] at h1
          rcases h2 with h2 | h2
          · rw [h1, ← hk2, h2] at kd
            cases kd
          · exact h2 hfit
        · rintro (q | ⟨q, _⟩)
          · omega
          · exact q hfit)
  clear HOK HF HL HST hT' hT2 HCX HT0 HDE HKE HE2
  have HOK := Lib.hid HX.out.1
  have HF := Lib.hid HOK.out.facts
  obtain ⟨r', hr'⟩ : ∃ q, shownS s.cur r = q := ⟨_, rfl⟩
  have HR2 : Hid (wid r' = 2) := Lib.hid (by rw [← hr', shown_wid]; exact HR1.out)
  have HSH : Hid (shownS T.cur r = r') := Lib.hid (by rw [← hr']; unfold shownS; rw [HX.out.2.2.2.2.1])
  rw [hr']
  clear hr'
  have b9 : w7.cell? ⟨w.heap.size, 9, none⟩ = some (.bool T.cur.wrap) := H7.out.pn.box.cell 9
  have f9 : w7.frozen? ⟨w.heap.size, 9, none⟩ = false := H7.out.pn.box.free 9
  go_upto_region 30 with (fail)
  change Code.wp _ _ _ _ (w7.setCell ⟨w.heap.size, 9, none⟩ (.bool false))
  have H4 := Lib.hid H7.out.wrap
  clear b9 f9 H7
  generalize w7.setCell ⟨w.heap.size, 9, none⟩ (.bool false) = w4 at H4 ⊢
  go_wp2_with fail
  refine (refSeenE (noWrap T) x3 y3 z3 w.heap.size w4 H4.out.pn.box).mono ?_; rintro e w4' ⟨rfl, rfl⟩
  obtain ⟨p, hp⟩ : ∃ p, seatO (noWrap T) = p := ⟨_, rfl⟩
  have HPP := Lib.hid hp
  have HP3 : Hid (p ≤ 3) := Lib.hid (by rw [← hp]; exact seatO_le _)
  rw [hp]
  clear hp
  obtain ⟨XX, hXX⟩ : ∃ X, seenX (noWrap T) x3 y3 = X := ⟨_, rfl⟩
  obtain ⟨AX, nX, cX, rfl⟩ : ∃ A n c, XX = .slice A n c := (by subst hXX; obtain ⟨A, c, e, _⟩ := (seenX_rm H4.out.pn.own.in_).2; exact ⟨A, _, c, e⟩)
  have HQ : Hid (∀ W, Pb w (noWrap T) x3 y3 z3 W → W.cell? ⟨w.heap.size, 7, none⟩ = some (.int .i64 T.cur.row) ∧ W.cell? ⟨w.heap.size, 8, none⟩ = some (.int .i64 T.cur.col) ∧ W.cell? ⟨w.heap.size, 10, none⟩ = some (.int .i64 T.cur.a.fg) ∧ W.cell? ⟨w.heap.size, 11, none⟩ = some (.int .i64 T.cur.a.bg) ∧ W.cell? ⟨w.heap.size, 12, none⟩ = some (.int .i64 T.cur.a.flags)) := Lib.hid fun W k => ⟨k.pn.box.cell 7, k.pn.box.cell 8, k.pn.box.cell 10, k.pn.box.cell 11, k.pn.box.cell 12⟩
  have HG : Hid (∀ W, Pb w (noWrap T) x3 y3 z3 W → W.cell? ⟨w.heap.size, p, none⟩ = some (.int .i64 (seenG T).rows) ∧ W.cell? ⟨w.heap.size, p + 1, none⟩ = some (.int .i64 (seenG T).cols) ∧ W.cell? ⟨w.heap.size, p + 2, none⟩ = some (.slice AX nX cX)) := Lib.hid fun W k => by
    have q := seat_arr (noWrap T) x3 y3 z3
    rw [hXX, HPP.out] at q
    exact ⟨by rw [k.pn.box.cell]; exact q.1, by rw [k.pn.box.cell]; exact q.2.1, by rw [k.pn.box.cell]; exact q.2.2⟩
  have HRM : Hid (∀ W, Pb w (noWrap T) x3 y3 z3 W → Rm W (.slice AX nX cX) (seenG T).cells) := Lib.hid fun W k => hXX ▸ seenX_rm k.pn.own.in_
  have HPN : Hid (∀ W v G, Pb w (noWrap T) x3 y3 z3 W → OwnCs W (w.heap.size + 2) v G.cells → ∃ x' y', Pb w (putG (noWrap T) G) x' y' z3 (pput W w.heap.size p G.rows G.cols v)) := Lib.hid fun W v G k hv => by
    have q := k.seenE hv
    rw [HPP.out] at q
    exact ⟨_, _, q⟩
  have HQ4 : Hid (∀ W G x' y', Pb w (putG (noWrap T) G) x' y' z3 W → W.cell? ⟨w.heap.size, 7, none⟩ = some (.int .i64 T.cur.row) ∧ W.cell? ⟨w.heap.size, 8, none⟩ = some (.int .i64 T.cur.col) ∧ W.cell? ⟨w.heap.size, 10, none⟩ = some (.int .i64 T.cur.a.fg) ∧ W.cell? ⟨w.heap.size, 11, none⟩ = some (.int .i64 T.cur.a.bg) ∧ W.cell? ⟨w.heap.size, 12, none⟩ = some (.int .i64 T.cur.a.flags)) := Lib.hid fun W G x' y' k => by
    have e := putG_wrap (noWrap T) G
    have q7 := k.pn.box.cell 7; have q8 := k.pn.box.cell 8; have q10 := k.pn.box.cell 10; have q11 := k.pn.box.cell 11; have q12 := k.pn.box.cell 12
    rw [sarr_7, e] at q7
    rw [sarr_8, e] at q8
    rw [sarr_10, e] at q10
    rw [sarr_11, e] at q11
    rw [sarr_12, e] at q12
    exact ⟨q7, q8, q10, q11, q12⟩
  have hrow : ((T.cur.row.toNat : Nat) : Int) = T.cur.row := by have := HF.out.row0; omega
  have hcl : ((T.cur.col.toNat : Nat) : Int) = T.cur.col := by have := HF.out.col0; omega
  have HAT : Hid (∀ W, Pb w (noWrap T) x3 y3 z3 W → Calls Tryz.prog 88 #[.agg #[.int .i64 (seenG T).rows, .int .i64 (seenG T).cols, .slice AX nX cX], .int .i64 T.cur.row] W fun e w' => ∃ u, e = .returned u ∧ OwnCs w' W.heap.size u (lineS T) ∧ Below W.heap.size W w') := Lib.hid fun W k => by
    have q := refAtG_any (seenG T) (.slice AX nX cX) T.cur.row.toNat W HF.out.g (by have := HF.out.row0; have := HF.out.row1; have := HF.out.gr; omega) (HRM.out W k)
    rw [hrow] at q
    exact q
  obtain ⟨m, hm⟩ : ∃ m, mid (roomS T 2) T.cur.col.toNat (T.cur.col.toNat + 2) (cellsOf r' T.cur.a) = m := ⟨_, rfl⟩
  have HMM := Lib.hid hm
  have L := Lib.hid HOK.out.line
  have h12 : wid r' = 1 ∨ wid r' = 2 := .inr HR2.out
  have hcells : (cellsOf r' T.cur.a).length = 2 := by have := cells_length (a := T.cur.a) h12; have := HR2.out; omega
  have hfit : T.cur.col.toNat + 2 ≤ (lineS T).length := by rw [L.out.len]; have := L.out.cI; have := HX.out.2.2.2.1; omega
  have HRF := Lib.hid (room_facts T 2 L.out HF.out.a hfit)
  have hfit2 : T.cur.col.toNat + 2 ≤ (roomS T 2).length := by rw [HRF.out.1]; exact hfit
  have HML : Hid (m.length = (seenG T).cols.toNat) := Lib.hid (by
    rw [← hm]
    rw [(mid_row (k := T.cur.col.toNat) (n := 2) HRF.out.2.1 hfit2 (good_cells h12 HF.out.a) hcells).2, HRF.out.1, L.out.len])
  have HFN : Hid (∀ W v, Cs W v (roomS T 2) → Calls Tryz.prog 91 #[v, .int .i64 T.cur.col, .int .i64 r', .agg #[.int .i64 T.cur.a.fg, .int .i64 T.cur.a.bg, .int .i64 T.cur.a.flags]] W fun e w' => ∃ u, e = .returned u ∧ OwnCs w' W.heap.size u m ∧ Below W.heap.size W w') := Lib.hid fun W v k => by
    have q := refPut_any (roomS T 2) T.cur.a T.cur.col.toNat 2 r' v W k (by rw [HRF.out.1, L.out.len]; have := L.out.c40; omega) HR2.out (by omega) hfit2
    rw [hcl] at q
    try rw [putL_mid HR2.out (by omega) hfit2] at q
    rw [← hm]
    exact q
  have HIN : Hid (∀ W v, Cs W v (lineS T) → Calls Tryz.prog 90 #[v, .int .i64 T.cur.col, .int .i64 2, .agg #[.int .i64 T.cur.a.fg, .int .i64 T.cur.a.bg, .int .i64 T.cur.a.flags]] W fun e w' => ∃ u, e = .returned u ∧ OwnCs w' W.heap.size u (insertOf (lineS T) T.cur.col.toNat 2 T.cur.a) ∧ Below W.heap.size W w') := Lib.hid fun W v k => by
    have q := refInsert_any (lineS T) T.cur.a T.cur.col.toNat 2 2 (by omega) v W k (by rw [L.out.len]; have := L.out.c40; omega) L.out.ok.2.2 HF.out.a (by omega)
    rw [hcl] at q
    exact q
  have HWT : Hid (∀ W v, Pb w (noWrap T) x3 y3 z3 W → Cs W v m → Calls Tryz.prog 86 #[.agg #[.int .i64 (seenG T).rows, .int .i64 (seenG T).cols, .slice AX nX cX], .int .i64 T.cur.row, v] W fun e w' => ∃ u, e = .returned (gridV (withRow (seenG T) T.cur.row.toNat m) u) ∧ OwnCs w' W.heap.size u (withRow (seenG T) T.cur.row.toNat m).cells ∧ Below W.heap.size W w') := Lib.hid fun W v k kv => by
    have q := refWithG_any (seenG T) (.slice AX nX cX) v m T.cur.row.toNat W HF.out.g (by have := HF.out.row0; have := HF.out.row1; have := HF.out.gr; omega) (HRM.out W k) kv HML.out
    rw [hrow] at q
    exact q
  clear hm hrow hcl h12 hcells hfit hfit2
  have HMD : Hid (∀ W, Pb w (noWrap T) x3 y3 z3 W → W.cell? ⟨w.heap.size, 40, none⟩ = some (.int .i64 T.modes)) := Lib.hid fun W k => k.pn.box.cell 40
  have q4 := HQ.out w4.drew (H4.out.kept (Below.refl _ _).drew)
  obtain ⟨g0, g1, g2⟩ := HG.out w4.drew (H4.out.kept (Below.refl _ _).drew)
  go_upto_region 31 with (fail)
  go_cut [13] from 118 to 124 (fun s13 wx => ∃ A5 c5, s13 = .slice A5 (lineS T).length c5 ∧ Hid (Pb w (noWrap T) x3 y3 z3 wx) ∧ Hid (Cs wx (.slice A5 (lineS T).length c5) (lineS T)))
  case first =>
    obtain ⟨p0, p1, pa0, pa1, pa2⟩ := q4
    go_region_law ((go_simp; go_at_call 88; refine (HAT.out w4.drew (H4.out.kept (Below.refl _ _).drew)).mono ?_; rintro e w5 ⟨v, rfl, ho, hb⟩; have H5 := Lib.hid (H4.out.kept ((Below.refl _ _).drew.trans hb)); obtain ⟨A5, c5, rfl, _⟩ := ho.cs.form; have HV5 := Lib.hid ho.cs; clear ho hb))
    all_goals
      go_wp2_with fail
      go_meet
      exact ⟨_, _, rfl, H5, HV5⟩
  case rest =>
  obtain ⟨A5, c5, rfl, H6, HV6⟩ := hcut
  rename World => w6
  clear q4 g0 g1 g2 H4
  obtain ⟨k3, hk3⟩ : ∃ k, (bits .and .i64 T.modes 2 == 0) = k := ⟨_, rfl⟩
  have HRO : Hid (roomS T 2 = bif !k3 then insertOf (lineS T) T.cur.col.toNat 2 T.cur.a else lineS T) := Lib.hid (by unfold roomS hasB; rw [hk3])
  have b40 := HMD.out w6 H6.out
  go_upto_if 128 with (fail)
  go_cut [13] from 128 to 137 (fun s13 wx => ∃ A5 c5, s13 = .slice A5 (lineS T).length c5 ∧ Hid (Pb w (noWrap T) x3 y3 z3 wx) ∧ Hid (Cs wx (.slice A5 (lineS T).length c5) (roomS T 2)))
  case first =>
    cases k3
    · have hro : roomS T 2 = insertOf (lineS T) T.cur.col.toNat 2 T.cur.a := HRO.out
      obtain ⟨p0, p1, pa0, pa1, pa2⟩ := HQ.out w6 H6.out
      have hln : (insertOf (lineS T) T.cur.col.toNat 2 T.cur.a).length = (lineS T).length := by rw [← hro]; exact HRF.out.1
      have HLN := Lib.hid hln
      have HRO2 := Lib.hid hro
      clear hln hro
      go_wp2_with fail
      refine (HIN.out w6 _ HV6.out).mono ?_; rintro e w7 ⟨v, rfl, ho, hb⟩
      have H7 := Lib.hid (H6.out.kept hb)
      obtain ⟨A7, c7, rfl, _⟩ := ho.cs.form
      have HV7 := Lib.hid ho.cs
      clear ho hb
      go_wp2_with fail
      go_meet
      exact ⟨_, _, by rw [HLN.out], H7, Lib.hid (by rw [HRO2.out]; have k := HV7.out; rw [HLN.out] at k; exact k)⟩
    · have hro : roomS T 2 = lineS T := HRO.out
      have HRO2 := Lib.hid hro
      clear hro
      go_wp2_with fail
      go_meet
      exact ⟨_, _, rfl, H6, Lib.hid (by rw [HRO2.out]; exact HV6.out)⟩
  case rest =>
  obtain ⟨A6, c6, rfl, H7, HV7⟩ := hcut
  rename World => w7
  clear H6 HV6 b40 HRO w6
  have H6 := H7
  have HV6 := HV7
  clear H7 HV7
  have q4 := HQ.out w7.drew (H6.out.kept (Below.refl _ _).drew)
  obtain ⟨u0, u1, u2⟩ := HG.out w7.drew (H6.out.kept (Below.refl _ _).drew)
  go_upto_region 34 with (fail)
  refine wp_region_held_drew (S := fun w' => w'.cell? ⟨w.heap.size, 7, none⟩ = some (.int .i64 T.cur.row) ∧ w'.cell? ⟨w.heap.size, 8, none⟩ = some (.int .i64 T.cur.col) ∧ w'.cell? ⟨w.heap.size, 10, none⟩ = some (.int .i64 T.cur.a.fg) ∧ w'.cell? ⟨w.heap.size, 11, none⟩ = some (.int .i64 T.cur.a.bg) ∧ w'.cell? ⟨w.heap.size, 12, none⟩ = some (.int .i64 T.cur.a.flags)) (by kernel_rfl) q4 (fun hHeld => ?_)
  refine wpAnyH_take (i := 0) (v := ?_) rfl (by kernel_rfl) (by kernel_rfl) (by kernel_rfl) (fun _ _ _ h => h) (Or.inl ⟨by rfl, ?_⟩) (by assumption) ?_
  rotate_left
  · intro w' hSw; first | (go_simp; done) | (go_simp; with_reducible rfl)
  simp only [Act.put, List.getElem_toArray, List.getElem_cons_zero, List.setIfInBounds_toArray, List.set_cons_zero, List.set_cons_succ]
  refine wpAnyH_take (i := 1) (v := ?_) rfl (by kernel_rfl) (by kernel_rfl) (by kernel_rfl) (fun _ _ _ h => h) (Or.inl ⟨by rfl, ?_⟩) (by assumption) ?_
  rotate_left
  · intro w' hSw; first | (go_simp; done) | (go_simp; with_reducible rfl)
  simp only [Act.put, List.getElem_toArray, List.getElem_cons_zero, List.getElem_cons_succ, List.setIfInBounds_toArray, List.set_cons_zero, List.set_cons_succ]
  refine wpAnyH_take (i := 2) (v := ?_) rfl (by kernel_rfl) (by kernel_rfl) (by kernel_rfl) (fun _ _ _ h => h) (Or.inl ⟨by rfl, ?_⟩) (by assumption) ?_
  rotate_left
  · intro w' hSw; first | (go_simp; done) | (go_simp; with_reducible rfl)
  simp only [Act.put, List.getElem_toArray, List.getElem_cons_zero, List.getElem_cons_succ, List.setIfInBounds_toArray, List.set_cons_zero, List.set_cons_succ]
  refine wpAnyH_take (i := 4) (v := ?_) rfl (by kernel_rfl) (by kernel_rfl) (by kernel_rfl) (fun _ _ _ h => h) (Or.inl ⟨by rfl, ?_⟩) (by assumption) ?_
  rotate_left
  · intro w' hSw; first | (go_simp; done) | (go_simp; with_reducible rfl)
  simp only [Act.put, List.getElem_toArray, List.getElem_cons_zero, List.getElem_cons_succ, List.setIfInBounds_toArray, List.set_cons_zero, List.set_cons_succ]
  refine wpAnyH_take (i := 5) (v := ?_) rfl (by kernel_rfl) (by kernel_rfl) (by kernel_rfl) (fun _ _ _ h => h) (Or.inl ⟨by rfl, ?_⟩) (by assumption) ?_
  rotate_left
  · intro w' hSw; first | (go_simp; done) | (go_simp; with_reducible rfl)
  simp only [Act.put, List.getElem_toArray, List.getElem_cons_zero, List.getElem_cons_succ, List.setIfInBounds_toArray, List.set_cons_zero, List.set_cons_succ]
  refine wpAnyH_take (i := 6) (v := ?_) rfl (by kernel_rfl) (by kernel_rfl) (by kernel_rfl) (fun _ _ _ h => h) (Or.inl ⟨by rfl, ?_⟩) (by assumption) ?_
  rotate_left
  · intro w' hSw; first | (go_simp; done) | (go_simp; with_reducible rfl)
  simp only [Act.put, List.getElem_toArray, List.getElem_cons_zero, List.getElem_cons_succ, List.setIfInBounds_toArray, List.set_cons_zero, List.set_cons_succ]
  refine wpAnyH_take (i := 7) (v := ?_) rfl (by kernel_rfl) (by kernel_rfl) (by kernel_rfl) (fun _ _ _ h => h) (Or.inl ⟨by rfl, ?_⟩) (by assumption) ?_
  rotate_left
  · intro w' hSw; first | (go_simp; done) | (go_simp; with_reducible rfl)
  simp only [Act.put, List.getElem_toArray, List.getElem_cons_zero, List.getElem_cons_succ, List.setIfInBounds_toArray, List.set_cons_zero, List.set_cons_succ]
  refine wpAnyH_take (i := 8) (v := ?_) rfl (by kernel_rfl) (by kernel_rfl) (by kernel_rfl) (fun _ _ _ h => h) (Or.inl ⟨by rfl, ?_⟩) (by assumption) ?_
  rotate_left
  · intro w' hSw; first | (go_simp; done) | (go_simp; with_reducible rfl)
  simp only [Act.put, List.getElem_toArray, List.getElem_cons_zero, List.getElem_cons_succ, List.setIfInBounds_toArray, List.set_cons_zero, List.set_cons_succ]
  refine wpAnyH_take (i := 9) (v := ?_) rfl (by kernel_rfl) (by kernel_rfl) (by kernel_rfl) (fun _ _ _ h => h) (Or.inl ⟨by rfl, ?_⟩) (by assumption) ?_
  rotate_left
  · intro w' hSw; first | (go_simp; done) | (go_simp; with_reducible rfl)
  simp only [Act.put, List.getElem_toArray, List.getElem_cons_zero, List.getElem_cons_succ, List.setIfInBounds_toArray, List.set_cons_zero, List.set_cons_succ]
  refine wpAnyH_take (i := 10) (v := ?_) rfl (by kernel_rfl) (by kernel_rfl) (by kernel_rfl) (fun _ _ _ h => h) (Or.inl ⟨by rfl, ?_⟩) (by assumption) ?_
  rotate_left
  · intro w' hSw; first | (go_simp; done) | (go_simp; with_reducible rfl)
  simp only [Act.put, List.getElem_toArray, List.getElem_cons_zero, List.getElem_cons_succ, List.setIfInBounds_toArray, List.set_cons_zero, List.set_cons_succ]
  refine wpAnyH_take (i := 11) (v := ?_) rfl (by kernel_rfl) (by kernel_rfl) (by kernel_rfl) (fun _ _ _ h => h) (Or.inl ⟨by rfl, ?_⟩) (by assumption) ?_
  rotate_left
  · intro w' hSw; first | (go_simp; done) | (go_simp; with_reducible rfl)
  simp only [Act.put, List.getElem_toArray, List.getElem_cons_zero, List.getElem_cons_succ, List.setIfInBounds_toArray, List.set_cons_zero, List.set_cons_succ]
  refine wpAnyH_take (i := 12) (v := ?_) rfl (by kernel_rfl) (by kernel_rfl) (by kernel_rfl) (fun _ _ _ h => h) (Or.inl ⟨by rfl, ?_⟩) (by assumption) ?_
  rotate_left
  · intro w' hSw; first | (go_simp; done) | (go_simp; with_reducible rfl)
  simp only [Act.put, List.getElem_toArray, List.getElem_cons_zero, List.getElem_cons_succ, List.setIfInBounds_toArray, List.set_cons_zero, List.set_cons_succ]
  refine wpAnyH_take (i := 13) (v := ?_) rfl (by kernel_rfl) (by kernel_rfl) (by kernel_rfl) (fun _ _ _ h => h) (Or.inl ⟨by rfl, ?_⟩) (by assumption) ?_
  rotate_left
  · intro w' hSw; first | (go_simp; done) | (go_simp; with_reducible rfl)
  simp only [Act.put, List.getElem_toArray, List.getElem_cons_zero, List.getElem_cons_succ, List.setIfInBounds_toArray, List.set_cons_zero, List.set_cons_succ]
  refine wpAnyH_take (i := 14) (v := ?_) rfl (by kernel_rfl) (by kernel_rfl) (by kernel_rfl) (fun _ _ _ h => h) (Or.inl ⟨by rfl, ?_⟩) (by assumption) ?_
  rotate_left
  · intro w' hSw; first | (go_simp; done) | (go_simp; with_reducible rfl)
  simp only [Act.put, List.getElem_toArray, List.getElem_cons_zero, List.getElem_cons_succ, List.setIfInBounds_toArray, List.set_cons_zero, List.set_cons_succ]
  refine wpAnyH_ready (rs := [3, 15]) (by kernel_rfl) (by simp) ?_
  refine AllReadyH.cons rfl (fun K hK => ?_) ?_
  · go_simp
    refine hK.out _ _ q4 (fun hHeld => ?_)
    clear hK K
    refine wpAnyH_ready (rs := [15]) (by kernel_rfl) (by simp) ?_
    refine AllReadyH.cons rfl (fun K hK => ?_) ?_
    · go_simp
      go_at_call 91
      refine (HFN.out w7.drew (.slice A6 (lineS T).length c6) (HV6.out.kept (Below.refl _ _).drew)).mono ?_; rintro e w8 ⟨v8, rfl, ho, hb⟩
      have H8 := Lib.hid (H6.out.kept ((Below.refl _ _).drew.trans hb))
      obtain ⟨A8, c8, rfl, _⟩ := ho.cs.form
      have HV8 := Lib.hid ho.cs
      have qc1 := HQ.out w8 H8.out
      obtain ⟨v0, v1, v2⟩ := HG.out w8 H8.out
      clear ho hb
      refine hK.out _ _ qc1 (fun hHeld => ?_)
      clear hK K
      refine wpAnyH_ready (rs := [16]) (by kernel_rfl) (by simp) ?_
      refine AllReadyH.cons rfl (fun K hK => ?_) ?_
      · go_simp
        go_at_call 86
        refine (HWT.out w8 _ H8.out HV8.out).mono ?_; rintro e w9 ⟨v9, rfl, ho, hb⟩
        obtain ⟨A', n', c', rfl⟩ : ∃ A n c, v9 = .slice A n c := (by obtain ⟨A, c, e, _⟩ := ho.rm.2; exact ⟨A, _, c, e⟩)
        have H9 := Lib.hid (H8.out.kept hb)
        obtain ⟨x9, y9, h9'⟩ := HPN.out w9 _ (withRow (seenG T) T.cur.row.toNat m) H9.out (ho.low H8.out.pn.up)
        have HZ := Lib.hid h9'
        have qc2 := HQ.out w9 H9.out
        obtain ⟨r0, r1, r2⟩ := HG.out w9 H9.out
        have q8 := HQ4.out _ (withRow (seenG T) T.cur.row.toNat m) _ _ HZ.out
        have f2 : ∀ j, w9.frozen? ⟨w.heap.size, j, none⟩ = false := H9.out.pn.box.free
        clear ho hb h9'
        refine hK.out _ _ qc2 (fun hHeld => ?_)
        clear hK K
        refine wpAnyH_take (i := 17) (v := ?_) rfl (by kernel_rfl) (by kernel_rfl) (by kernel_rfl) (fun _ _ _ h => h) (Or.inl ⟨by rfl, ?_⟩) (by assumption) ?_
        rotate_left
        · intro w' hSw; first | (go_simp; done) | (go_simp; with_reducible rfl)
        simp only [Act.put, List.getElem_toArray, List.getElem_cons_zero, List.getElem_cons_succ, List.setIfInBounds_toArray, List.set_cons_zero, List.set_cons_succ]
        refine wpAnyH_ready (rs := [18]) (by kernel_rfl) (by simp) ?_
        refine AllReadyH.cons rfl (fun K hK => ?_) ?_
        · go_simp
          refine hK.out _ _ q8 (fun hHeld => ?_)
          clear hK K
          refine wpAnyH_done (by kernel_rfl) ?_ _
          first | show Exit.then _ _ _ _ (pput w9 w.heap.size p (withRow (seenG T) T.cur.row.toNat m).rows (withRow (seenG T) T.cur.row.toNat m).cols (.slice A' n' c')) | show Exit.inBlock _ _ _ _ (pput w9 w.heap.size p (withRow (seenG T) T.cur.row.toNat m).rows (withRow (seenG T) T.cur.row.toNat m).cols (.slice A' n' c'))
          clear r0 r1 r2 v0 v1 v2 u0 u1 u2 q4 q8 qc1 qc2 f2 hHeld HPN HQ HG HRM HAT HFN HWT H6 H8 H9 HV6 HV8 HIN HMD
          generalize pput w9 w.heap.size p (withRow (seenG T) T.cur.row.toNat m).rows (withRow (seenG T) T.cur.row.toNat m).cols (.slice A' n' c') = wz at HZ ⊢
          obtain ⟨GG, hGG⟩ : ∃ G, (withRow (seenG T) T.cur.row.toNat m) = G := ⟨_, rfl⟩
          have HGG := Lib.hid hGG
          rw [hGG] at HZ
          clear hGG
          obtain ⟨z7, z8, _, _, _⟩ := HQ4.out wz _ _ _ HZ.out
          have f8 : wz.frozen? ⟨w.heap.size, 8, none⟩ = false := HZ.out.pn.box.free 8
          have hwc : IntKind.i64.wrap (T.cur.col + 2) = T.cur.col + 2 := by have := HF.out.col0; have := HF.out.col1; have := HF.out.c40; rw [IntKind.wrap_i64]; omega
          go_upto_region 36 with (fail)
          change Code.wp _ _ _ _ (wz.setCell ⟨w.heap.size, 8, none⟩ (.int .i64 (T.cur.col + 2)))
          have HA := Lib.hid (HZ.out.colW (T.cur.col + 2))
          clear z7 z8 f8 HZ
          generalize wz.setCell ⟨w.heap.size, 8, none⟩ (.int .i64 (T.cur.col + 2)) = wy at HA ⊢
          have y8 : wy.cell? ⟨w.heap.size, 8, none⟩ = some (.int .i64 (T.cur.col + 2)) := HA.out.pn.box.cell 8
          obtain ⟨cc, hcc⟩ : ∃ c, min (T.cur.col + 2) (T.main.cols - 1) = c := ⟨_, rfl⟩
          obtain ⟨qq, hqq⟩ : ∃ q, (decide (T.cur.col + 2 = T.main.cols) && hasB T.modes 1) = q := ⟨_, rfl⟩
          have HCC := Lib.hid hcc
          have HQQ := Lib.hid hqq
          clear hcc hqq
          have HEQ : Hid (atCol (putG (noWrap T) GG) (T.cur.col + 2) = atPW (putG (noWrap T) GG) (T.cur.col + 2) false) := Lib.hid (by
            unfold atCol atPW
            rw [putG_wrap (noWrap T) GG]
            rfl)
          go_upto_if 167 with (fail)
          go_cut [] from 163 to 174 (fun wx => Hid (Pb w (atPW (putG (noWrap T) GG) cc qq) x9 y9 z3 wx))
          case first =>
            have f := HF.out
            have hcs := HX.out.2.2.1
            by_cases hge : T.cur.col + 2 = T.main.cols
            · have hdc : s.main.cols ≤ T.cur.col + 2 := by omega
              have hwd : IntKind.i64.wrap (s.main.cols - 1) = s.main.cols - 1 := by have := f.c1; have := f.c40; rw [IntKind.wrap_i64]; omega
              have c9 : wy.cell? ⟨w.heap.size, 9, none⟩ = some (.bool (atCol (putG (noWrap T) GG) (T.cur.col + 2)).cur.wrap) := HA.out.pn.box.cell 9
              have f8 : wy.frozen? ⟨w.heap.size, 8, none⟩ = false := HA.out.pn.box.free 8
              have f9 : wy.frozen? ⟨w.heap.size, 9, none⟩ = false := HA.out.pn.box.free 9
              have HE := Lib.hid ((HA.out.colW (s.main.cols - 1)).wr (bits .and .i64 s.modes 1 != 0))
              have HC2 : Hid (cc = s.main.cols - 1 ∧ qq = (bits .and .i64 s.modes 1 != 0)) := Lib.hid ⟨by rw [← HCC.out]; omega, by rw [← HQQ.out, decide_eq_true hge, HX.out.2.1]; rfl⟩
              clear f hcs hge
              go_wp2_with fail
              go_meet
              exact Lib.hid (by rw [HC2.out.1, HC2.out.2]; exact HE.out)
            · have hdc : T.cur.col + 2 < s.main.cols := by have := HX.out.2.2.2.1; omega
              have HC2 : Hid (cc = T.cur.col + 2 ∧ qq = false) := Lib.hid ⟨by rw [← HCC.out]; have := HX.out.2.2.2.1; omega, by rw [← HQQ.out, decide_eq_false hge]; rfl⟩
              clear f hcs hge
              go_wp2_with fail
              go_meet
              exact Lib.hid (by rw [HC2.out.1, HC2.out.2, ← HEQ.out]; exact HA.out)
          case rest =>
          rename World => wv
          have HB := Lib.hid hcut.out
          clear hcut HA y8 HEQ
          have y42 : wv.cell? ⟨w.heap.size, 42, none⟩ = some (.int .i64 (atPW (putG (noWrap T) GG) cc qq).last) := HB.out.pn.box.cell 42
          have g42 : wv.frozen? ⟨w.heap.size, 42, none⟩ = false := HB.out.pn.box.free 42
          have HD := Lib.hid (HB.out.last r)
          have HE : Hid (writeS s r 2 = lastIs (atPW (putG (noWrap T) GG) cc qq) r) := Lib.hid (by rw [HX.out.2.2.2.2.2]; exact body_is2 HSH.out HMM.out HGG.out HCC.out HQQ.out)
          go_wp2_with (first
            | (refine wp_loadS (b := w.heap.size) (s := lastIs (atPW (putG (noWrap T) GG) cc qq) r) rfl rfl rfl HD.out.pn.box ?_)
            | (refine wp_storeS (b := w.heap.size + 1) rfl rfl rfl rfl rfl HD.out.pn.own.in_.one HD.out.b1 rfl ?_; intro wu hu))
          refine bodyPost_ret (ret1S rfl rfl hu.box) rfl ?_
          rw [HE.out]
          exact ⟨_, _, _, rfl, Own.low (hu.own HD.out.pn.own (by omega)) (by omega), hu.below _ _ (by omega) HD.out.bel⟩
        exact AllReadyH.nil
      exact AllReadyH.nil
    exact AllReadyH.nil
  refine AllReadyH.cons rfl (fun K hK => ?_) ?_
  · go_simp
    go_at_call 91
    refine (HFN.out w7.drew (.slice A6 (lineS T).length c6) (HV6.out.kept (Below.refl _ _).drew)).mono ?_; rintro e w8 ⟨v8, rfl, ho, hb⟩
    have H8 := Lib.hid (H6.out.kept ((Below.refl _ _).drew.trans hb))
    obtain ⟨A8, c8, rfl, _⟩ := ho.cs.form
    have HV8 := Lib.hid ho.cs
    have qc1 := HQ.out w8 H8.out
    obtain ⟨v0, v1, v2⟩ := HG.out w8 H8.out
    clear ho hb
    refine hK.out _ _ qc1 (fun hHeld => ?_)
    clear hK K
    refine wpAnyH_ready (rs := [3]) (by kernel_rfl) (by simp) ?_
    refine AllReadyH.cons rfl (fun K hK => ?_) ?_
    · go_simp
      refine hK.out _ _ qc1 (fun hHeld => ?_)
      clear hK K
      refine wpAnyH_ready (rs := [16]) (by kernel_rfl) (by simp) ?_
      refine AllReadyH.cons rfl (fun K hK => ?_) ?_
      · go_simp
        go_at_call 86
        refine (HWT.out w8 _ H8.out HV8.out).mono ?_; rintro e w9 ⟨v9, rfl, ho, hb⟩
        obtain ⟨A', n', c', rfl⟩ : ∃ A n c, v9 = .slice A n c := (by obtain ⟨A, c, e, _⟩ := ho.rm.2; exact ⟨A, _, c, e⟩)
        have H9 := Lib.hid (H8.out.kept hb)
        obtain ⟨x9, y9, h9'⟩ := HPN.out w9 _ (withRow (seenG T) T.cur.row.toNat m) H9.out (ho.low H8.out.pn.up)
        have HZ := Lib.hid h9'
        have qc2 := HQ.out w9 H9.out
        obtain ⟨r0, r1, r2⟩ := HG.out w9 H9.out
        have q8 := HQ4.out _ (withRow (seenG T) T.cur.row.toNat m) _ _ HZ.out
        have f2 : ∀ j, w9.frozen? ⟨w.heap.size, j, none⟩ = false := H9.out.pn.box.free
        clear ho hb h9'
        refine hK.out _ _ qc2 (fun hHeld => ?_)
        clear hK K
        refine wpAnyH_take (i := 17) (v := ?_) rfl (by kernel_rfl) (by kernel_rfl) (by kernel_rfl) (fun _ _ _ h => h) (Or.inl ⟨by rfl, ?_⟩) (by assumption) ?_
        rotate_left
        · intro w' hSw; first | (go_simp; done) | (go_simp; with_reducible rfl)
        simp only [Act.put, List.getElem_toArray, List.getElem_cons_zero, List.getElem_cons_succ, List.setIfInBounds_toArray, List.set_cons_zero, List.set_cons_succ]
        refine wpAnyH_ready (rs := [18]) (by kernel_rfl) (by simp) ?_
        refine AllReadyH.cons rfl (fun K hK => ?_) ?_
        · go_simp
          refine hK.out _ _ q8 (fun hHeld => ?_)
          clear hK K
          refine wpAnyH_done (by kernel_rfl) ?_ _
          first | show Exit.then _ _ _ _ (pput w9 w.heap.size p (withRow (seenG T) T.cur.row.toNat m).rows (withRow (seenG T) T.cur.row.toNat m).cols (.slice A' n' c')) | show Exit.inBlock _ _ _ _ (pput w9 w.heap.size p (withRow (seenG T) T.cur.row.toNat m).rows (withRow (seenG T) T.cur.row.toNat m).cols (.slice A' n' c'))
          clear r0 r1 r2 v0 v1 v2 u0 u1 u2 q4 q8 qc1 qc2 f2 hHeld HPN HQ HG HRM HAT HFN HWT H6 H8 H9 HV6 HV8 HIN HMD
          generalize pput w9 w.heap.size p (withRow (seenG T) T.cur.row.toNat m).rows (withRow (seenG T) T.cur.row.toNat m).cols (.slice A' n' c') = wz at HZ ⊢
          obtain ⟨GG, hGG⟩ : ∃ G, (withRow (seenG T) T.cur.row.toNat m) = G := ⟨_, rfl⟩
          have HGG := Lib.hid hGG
          rw [hGG] at HZ
          clear hGG
          obtain ⟨z7, z8, _, _, _⟩ := HQ4.out wz _ _ _ HZ.out
          have f8 : wz.frozen? ⟨w.heap.size, 8, none⟩ = false := HZ.out.pn.box.free 8
          have hwc : IntKind.i64.wrap (T.cur.col + 2) = T.cur.col + 2 := by have := HF.out.col0; have := HF.out.col1; have := HF.out.c40; rw [IntKind.wrap_i64]; omega
          go_upto_region 36 with (fail)
          change Code.wp _ _ _ _ (wz.setCell ⟨w.heap.size, 8, none⟩ (.int .i64 (T.cur.col + 2)))
          have HA := Lib.hid (HZ.out.colW (T.cur.col + 2))
          clear z7 z8 f8 HZ
          generalize wz.setCell ⟨w.heap.size, 8, none⟩ (.int .i64 (T.cur.col + 2)) = wy at HA ⊢
          have y8 : wy.cell? ⟨w.heap.size, 8, none⟩ = some (.int .i64 (T.cur.col + 2)) := HA.out.pn.box.cell 8
          obtain ⟨cc, hcc⟩ : ∃ c, min (T.cur.col + 2) (T.main.cols - 1) = c := ⟨_, rfl⟩
          obtain ⟨qq, hqq⟩ : ∃ q, (decide (T.cur.col + 2 = T.main.cols) && hasB T.modes 1) = q := ⟨_, rfl⟩
          have HCC := Lib.hid hcc
          have HQQ := Lib.hid hqq
          clear hcc hqq
          have HEQ : Hid (atCol (putG (noWrap T) GG) (T.cur.col + 2) = atPW (putG (noWrap T) GG) (T.cur.col + 2) false) := Lib.hid (by
            unfold atCol atPW
            rw [putG_wrap (noWrap T) GG]
            rfl)
          go_upto_if 167 with (fail)
          go_cut [] from 163 to 174 (fun wx => Hid (Pb w (atPW (putG (noWrap T) GG) cc qq) x9 y9 z3 wx))
          case first =>
            have f := HF.out
            have hcs := HX.out.2.2.1
            by_cases hge : T.cur.col + 2 = T.main.cols
            · have hdc : s.main.cols ≤ T.cur.col + 2 := by omega
              have hwd : IntKind.i64.wrap (s.main.cols - 1) = s.main.cols - 1 := by have := f.c1; have := f.c40; rw [IntKind.wrap_i64]; omega
              have c9 : wy.cell? ⟨w.heap.size, 9, none⟩ = some (.bool (atCol (putG (noWrap T) GG) (T.cur.col + 2)).cur.wrap) := HA.out.pn.box.cell 9
              have f8 : wy.frozen? ⟨w.heap.size, 8, none⟩ = false := HA.out.pn.box.free 8
              have f9 : wy.frozen? ⟨w.heap.size, 9, none⟩ = false := HA.out.pn.box.free 9
              have HE := Lib.hid ((HA.out.colW (s.main.cols - 1)).wr (bits .and .i64 s.modes 1 != 0))
              have HC2 : Hid (cc = s.main.cols - 1 ∧ qq = (bits .and .i64 s.modes 1 != 0)) := Lib.hid ⟨by rw [← HCC.out]; omega, by rw [← HQQ.out, decide_eq_true hge, HX.out.2.1]; rfl⟩
              clear f hcs hge
              go_wp2_with fail
              go_meet
              exact Lib.hid (by rw [HC2.out.1, HC2.out.2]; exact HE.out)
            · have hdc : T.cur.col + 2 < s.main.cols := by have := HX.out.2.2.2.1; omega
              have HC2 : Hid (cc = T.cur.col + 2 ∧ qq = false) := Lib.hid ⟨by rw [← HCC.out]; have := HX.out.2.2.2.1; omega, by rw [← HQQ.out, decide_eq_false hge]; rfl⟩
              clear f hcs hge
              go_wp2_with fail
              go_meet
              exact Lib.hid (by rw [HC2.out.1, HC2.out.2, ← HEQ.out]; exact HA.out)
          case rest =>
          rename World => wv
          have HB := Lib.hid hcut.out
          clear hcut HA y8 HEQ
          have y42 : wv.cell? ⟨w.heap.size, 42, none⟩ = some (.int .i64 (atPW (putG (noWrap T) GG) cc qq).last) := HB.out.pn.box.cell 42
          have g42 : wv.frozen? ⟨w.heap.size, 42, none⟩ = false := HB.out.pn.box.free 42
          have HD := Lib.hid (HB.out.last r)
          have HE : Hid (writeS s r 2 = lastIs (atPW (putG (noWrap T) GG) cc qq) r) := Lib.hid (by rw [HX.out.2.2.2.2.2]; exact body_is2 HSH.out HMM.out HGG.out HCC.out HQQ.out)
          go_wp2_with (first
            | (refine wp_loadS (b := w.heap.size) (s := lastIs (atPW (putG (noWrap T) GG) cc qq) r) rfl rfl rfl HD.out.pn.box ?_)
            | (refine wp_storeS (b := w.heap.size + 1) rfl rfl rfl rfl rfl HD.out.pn.own.in_.one HD.out.b1 rfl ?_; intro wu hu))
          refine bodyPost_ret (ret1S rfl rfl hu.box) rfl ?_
          rw [HE.out]
          exact ⟨_, _, _, rfl, Own.low (hu.own HD.out.pn.own (by omega)) (by omega), hu.below _ _ (by omega) HD.out.bel⟩
        exact AllReadyH.nil
      exact AllReadyH.nil
    exact AllReadyH.nil
  exact AllReadyH.nil
end Scr
end Go.Proofs.YtceaoadlhdgnmaaGreatDoor
