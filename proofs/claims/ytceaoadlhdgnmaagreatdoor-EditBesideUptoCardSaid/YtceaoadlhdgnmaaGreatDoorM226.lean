/- Joined texts: PrnRefD. -/
import Derived.Test.YtceaoadlhdgnmaaGreatDoorM24
import Derived.Test.YtceaoadlhdgnmaaGreatDoorM103
import Derived.Test.YtceaoadlhdgnmaaGreatDoorM221
import Derived.Deep.CutRange
namespace Go.Proofs.YtceaoadlhdgnmaaGreatDoor
set_option maxRecDepth 100000
section
open Go.RowKit
namespace Scr
open Go.Proofs.YtceaoadlhdgnmaaGreatDoor.Row
theorem Pb.seen {w0 w : World} {s : S} {x y z v : Value} (h : Pb w0 s x y z w) {G : Gr} (hv : OwnCs w (w0.heap.size + 2) v G.cells) : Pb w0 (putG s G) (putX s x v) (putY s y v) z (pput w w0.heap.size (seatO s) G.rows G.cols v) :=
  h.only (h.pn.seen hv) (pput_below (Below.refl _ _) (Nat.le_refl _) _ _ _) (pput_only (Only.refl _ _) _ _ _)
theorem refSeen8p (s : S) (x y z : Value) (b : Nat) (w : World) (h : SBox w b s x y z) : Calls Tryz.prog 79 #[.pointer (some ⟨b, 0, none⟩)] w fun e w' => e = .returned (.pointer (some ⟨b, seatO s, none⟩)) ∧ w = w' := by
  have c0 : ∀ j, w.cell? ⟨b, j, none⟩ = (sarr s x y z)[j]? := h.cell
  clear h
  cases hs : s.swapped
  · have HO : Hid (seatO s = 0) := Lib.hid (by unfold seatO; rw [hs]; rfl)
    rw [HO.out]
    go_enter Tryz.func79, Tryz.ntmps79
    go_wp2_with fail
    go_ret
    exact ⟨rfl, rfl⟩
  · have HO : Hid (seatO s = 3) := Lib.hid (by unfold seatO; rw [hs]; rfl)
    rw [HO.out]
    go_enter Tryz.func79, Tryz.ntmps79
    go_wp2_with fail
    go_ret
    exact ⟨rfl, rfl⟩
theorem refMoveG_any (G : Gr) (v : Value) (top bot n : Int) (a : Look) (w : World) (hg : gridB G = true) (hv : Rm w v G.cells) (h0 : 0 ≤ top) (h1 : top ≤ bot) (h2 : bot < G.rows) (hn : -9999 ≤ n ∧ n ≤ 9999) :
    Calls Tryz.prog 130 #[gridV G v, .int .i64 top, .int .i64 bot, .int .i64 n, .agg #[.int .i64 a.fg, .int .i64 a.bg, .int .i64 a.flags]] w fun e w' =>
      ∃ u, e = .returned (gridV (moveG G top bot n a) u) ∧ OwnCs w' w.heap.size u (moveG G top bot n a).cells ∧ Below w.heap.size w w' := by
  obtain ⟨R, C, rs, rfl, hr, _⟩ := parts_of hg
  rw [moveG_parts hr]
  obtain ⟨t, rfl⟩ := Int.eq_ofNat_of_zero_le h0
  obtain ⟨k, rfl⟩ := Int.eq_ofNat_of_zero_le (show 0 ≤ bot by omega)
  rw [Int.toNat_natCast, Int.toNat_natCast]
  exact refMove_any R C rs a t k n v w hr hv (by omega) (by have : (k : Int) < (R : Int) := h2; omega) hn
set_option maxHeartbeats 6400000 in
theorem refDown_move (s : S) (x y z : Value) (w : World) (h : In w s x y z) (hok : Ok s) (hr : s.cur.row = s.bottom) :
    Calls Tryz.prog 89 #[sv s x y z] w fun e w' => ∃ x' y' z', e = .returned (sv (noWrap (putG s (moveG (seenG s) s.top s.bottom 1 s.cur.a))) x' y' z') ∧ Own w' w.heap.size (noWrap (putG s (moveG (seenG s) s.top s.bottom 1 s.cur.a))) x' y' z' ∧ Below w.heap.size w w' := by
  have F := Lib.hid hok.facts
  have H0 := Lib.hid (Rz.start w s x y z)
  have HCP := Lib.hid (copyScreen_any s x y z _ (h.kept H0.out.bel) hok.lens)
  have HGT := Lib.hid fun W u (k : Rm W u (seenG s).cells) => refMoveG_any (seenG s) u s.top s.bottom 1 s.cur.a W F.out.g k F.out.top0 F.out.tb (by have := F.out.gr; have := F.out.bot; omega) (by omega)
  clear h hok
  go_enter Tryz.func89, Tryz.ntmps89
  go_wp2_with (first
    | (refine wp_allocS1 (w := w) rfl rfl ?_)
    | (refine wp_loadS (b := w.heap.size) (s := s) rfl rfl rfl H0.out.b0 ?_))
  refine HCP.out.mono ?_; rintro e w1 ⟨x1, y1, z1, rfl, ho, hb⟩
  have H1 := Lib.hid (H0.out.kept hb)
  have HO1 := Lib.hid (ho.low H0.out.up)
  clear hb ho H0 HCP
  obtain ⟨X, hX⟩ : ∃ X, seenX s x1 y1 = X := ⟨_, rfl⟩
  obtain ⟨AX, nX, cX, rfl⟩ : ∃ A n c, X = .slice A n c := (by subst hX; obtain ⟨A, c, e, _⟩ := (seenX_rm HO1.out.in_).2; exact ⟨A, _, c, e⟩)
  have HSC := Lib.hid (seat_arr s x1 y1 z1)
  rw [hX] at HSC
  have HRM : Hid (∀ W, Pb w s x1 y1 z1 W → Rm W (.slice AX nX cX) (seenG s).cells) := Lib.hid fun W k => hX ▸ seenX_rm k.pn.own.in_
  clear hX
  go_wp2_with (refine wp_storeS_then (b := w.heap.size) (A := sarr s x1 y1 z1) (T := Pb w s x1 y1 z1) rfl rfl rfl rfl rfl HO1.out.in_.one H1.out.b0 rfl (fun _ k => Pb.start H1.out HO1.out k) ?_; intro w2 H2)
  have HPS := Lib.hid (refSeen8p s x1 y1 z1 w.heap.size w2 H2.out.pn.box)
  clear H1 HO1
  have HPN : Hid (∀ W v, Pb w s x1 y1 z1 W → OwnCs W (w.heap.size + 2) v (moveG (seenG s) s.top s.bottom 1 s.cur.a).cells → Pb w (putG s (moveG (seenG s) s.top s.bottom 1 s.cur.a)) (putX s x1 v) (putY s y1 v) z1 (pput W w.heap.size (seatO s) (moveG (seenG s) s.top s.bottom 1 s.cur.a).rows (moveG (seenG s) s.top s.bottom 1 s.cur.a).cols v)) := Lib.hid fun W v k hv => k.seen (G := moveG (seenG s) s.top s.bottom 1 s.cur.a) hv
  obtain ⟨p, hp⟩ : ∃ p, seatO s = p := ⟨_, rfl⟩
  rw [hp] at HSC HPS HPN
  have HP3 : Hid (p ≤ 3) := Lib.hid (by rw [← hp]; unfold seatO; split <;> omega)
  have HQ : Hid (∀ W, Pb w s x1 y1 z1 W → W.cell? ⟨w.heap.size, 37, none⟩ = some (.int .i64 s.top) ∧ W.cell? ⟨w.heap.size, 38, none⟩ = some (.int .i64 s.bottom) ∧ W.cell? ⟨w.heap.size, 10, none⟩ = some (.int .i64 s.cur.a.fg) ∧ W.cell? ⟨w.heap.size, 11, none⟩ = some (.int .i64 s.cur.a.bg) ∧ W.cell? ⟨w.heap.size, 12, none⟩ = some (.int .i64 s.cur.a.flags)) := Lib.hid fun W k =>
    ⟨k.pn.box.cell 37, k.pn.box.cell 38, k.pn.box.cell 10, k.pn.box.cell 11, k.pn.box.cell 12⟩
  have HG : Hid (∀ W, Pb w s x1 y1 z1 W → W.cell? ⟨w.heap.size, p, none⟩ = some (.int .i64 (seenG s).rows) ∧ W.cell? ⟨w.heap.size, p + 1, none⟩ = some (.int .i64 (seenG s).cols) ∧ W.cell? ⟨w.heap.size, p + 2, none⟩ = some (.slice AX nX cX)) := Lib.hid fun W k =>
    ⟨by rw [k.pn.box.cell]; exact HSC.out.1, by rw [k.pn.box.cell]; exact HSC.out.2.1, by rw [k.pn.box.cell]; exact HSC.out.2.2⟩
  have HQ4 : Hid (∀ W R C v, Pb w s x1 y1 z1 W → (pput W w.heap.size p R C v).cell? ⟨w.heap.size, 37, none⟩ = some (.int .i64 s.top) ∧ (pput W w.heap.size p R C v).cell? ⟨w.heap.size, 38, none⟩ = some (.int .i64 s.bottom) ∧ (pput W w.heap.size p R C v).cell? ⟨w.heap.size, 10, none⟩ = some (.int .i64 s.cur.a.fg) ∧ (pput W w.heap.size p R C v).cell? ⟨w.heap.size, 11, none⟩ = some (.int .i64 s.cur.a.bg) ∧ (pput W w.heap.size p R C v).cell? ⟨w.heap.size, 12, none⟩ = some (.int .i64 s.cur.a.flags)) := Lib.hid fun W R C v k => by
    have h3 := HP3.out
    rw [pput_cell h3 (by omega), pput_cell h3 (by omega), pput_cell h3 (by omega), pput_cell h3 (by omega), pput_cell h3 (by omega)]
    exact HQ.out W k
  clear hp HSC
  refine HPS.out.mono ?_; rintro e w2' ⟨rfl, rfl⟩
  have q7 : w2.cell? ⟨w.heap.size, 7, none⟩ = some (.int .i64 s.cur.row) := H2.out.pn.box.cell 7
  have q2 := HQ.out w2 H2.out
  have qe : w2.cell? ⟨w.heap.size, 38, none⟩ = some (.int .i64 s.bottom) := q2.2.1
  obtain ⟨g0, g1, g2⟩ := HG.out w2 H2.out
  go_upto_region 4 with (fail)
  refine wp_region_held_drew (S := fun w' => w'.cell? ⟨w.heap.size, 37, none⟩ = some (.int .i64 s.top) ∧ w'.cell? ⟨w.heap.size, 38, none⟩ = some (.int .i64 s.bottom) ∧ w'.cell? ⟨w.heap.size, 10, none⟩ = some (.int .i64 s.cur.a.fg) ∧ w'.cell? ⟨w.heap.size, 11, none⟩ = some (.int .i64 s.cur.a.bg) ∧ w'.cell? ⟨w.heap.size, 12, none⟩ = some (.int .i64 s.cur.a.flags)) (by kernel_rfl) q2 (fun hHeld => ?_)
  refine wpAnyH_take (i := 0) (v := ?_) rfl (by kernel_rfl) (by kernel_rfl) (by kernel_rfl) (fun _ _ _ h => h) (Or.inl ⟨by rfl, ?_⟩) (by assumption) ?_
  rotate_left
  · intro w' hSw; first | (go_simp; done) | (go_simp; with_reducible rfl)
  simp only [Act.put, List.getElem_toArray, List.getElem_cons_zero, List.setIfInBounds_toArray, List.set_cons_zero, List.set_cons_succ]
  refine wpAnyH_take (i := 1) (v := ?_) rfl (by kernel_rfl) (by kernel_rfl) (by kernel_rfl) (fun _ _ _ h => h) (Or.inl ⟨by rfl, ?_⟩) (by assumption) ?_
  rotate_left
  · intro w' hSw; first | (go_simp; done) | (go_simp; with_reducible rfl)
  simp only [Act.put, List.getElem_toArray, List.getElem_cons_zero, List.getElem_cons_succ, List.setIfInBounds_toArray, List.set_cons_zero, List.set_cons_succ]
  refine wpAnyH_take (i := 2) (v := ?_) rfl (by kernel_rfl) (by kernel_rfl) (by kernel_rfl) (fun _ _ _ h => h) (Or.inl ⟨by rfl, ?_⟩) (by assumption) ?_
  rotate_left
  · intro w' hSw; first | (go_simp; done) | (go_simp; with_reducible rfl)
  simp only [Act.put, List.getElem_toArray, List.getElem_cons_zero, List.getElem_cons_succ, List.setIfInBounds_toArray, List.set_cons_zero, List.set_cons_succ]
  refine wpAnyH_take (i := 4) (v := ?_) rfl (by kernel_rfl) (by kernel_rfl) (by kernel_rfl) (fun _ _ _ h => h) (Or.inl ⟨by rfl, ?_⟩) (by assumption) ?_
  rotate_left
  · intro w' hSw; first | (go_simp; done) | (go_simp; with_reducible rfl)
  simp only [Act.put, List.getElem_toArray, List.getElem_cons_zero, List.getElem_cons_succ, List.setIfInBounds_toArray, List.set_cons_zero, List.set_cons_succ]
  refine wpAnyH_take (i := 5) (v := ?_) rfl (by kernel_rfl) (by kernel_rfl) (by kernel_rfl) (fun _ _ _ h => h) (Or.inl ⟨by rfl, ?_⟩) (by assumption) ?_
  rotate_left
  · intro w' hSw; first | (go_simp; done) | (go_simp; with_reducible rfl)
  simp only [Act.put, List.getElem_toArray, List.getElem_cons_zero, List.getElem_cons_succ, List.setIfInBounds_toArray, List.set_cons_zero, List.set_cons_succ]
  refine wpAnyH_take (i := 6) (v := ?_) rfl (by kernel_rfl) (by kernel_rfl) (by kernel_rfl) (fun _ _ _ h => h) (Or.inl ⟨by rfl, ?_⟩) (by assumption) ?_
  rotate_left
  · intro w' hSw; first | (go_simp; done) | (go_simp; with_reducible rfl)
  simp only [Act.put, List.getElem_toArray, List.getElem_cons_zero, List.getElem_cons_succ, List.setIfInBounds_toArray, List.set_cons_zero, List.set_cons_succ]
  refine wpAnyH_take (i := 7) (v := ?_) rfl (by kernel_rfl) (by kernel_rfl) (by kernel_rfl) (fun _ _ _ h => h) (Or.inl ⟨by rfl, ?_⟩) (by assumption) ?_
  rotate_left
  · intro w' hSw; first | (go_simp; done) | (go_simp; with_reducible rfl)
  simp only [Act.put, List.getElem_toArray, List.getElem_cons_zero, List.getElem_cons_succ, List.setIfInBounds_toArray, List.set_cons_zero, List.set_cons_succ]
  refine wpAnyH_take (i := 8) (v := ?_) rfl (by kernel_rfl) (by kernel_rfl) (by kernel_rfl) (fun _ _ _ h => h) (Or.inl ⟨by rfl, ?_⟩) (by assumption) ?_
  rotate_left
  · intro w' hSw; first | (go_simp; done) | (go_simp; with_reducible rfl)
  simp only [Act.put, List.getElem_toArray, List.getElem_cons_zero, List.getElem_cons_succ, List.setIfInBounds_toArray, List.set_cons_zero, List.set_cons_succ]
  refine wpAnyH_take (i := 9) (v := ?_) rfl (by kernel_rfl) (by kernel_rfl) (by kernel_rfl) (fun _ _ _ h => h) (Or.inl ⟨by rfl, ?_⟩) (by assumption) ?_
  rotate_left
  · intro w' hSw; first | (go_simp; done) | (go_simp; with_reducible rfl)
  simp only [Act.put, List.getElem_toArray, List.getElem_cons_zero, List.getElem_cons_succ, List.setIfInBounds_toArray, List.set_cons_zero, List.set_cons_succ]
  refine wpAnyH_take (i := 10) (v := ?_) rfl (by kernel_rfl) (by kernel_rfl) (by kernel_rfl) (fun _ _ _ h => h) (Or.inl ⟨by rfl, ?_⟩) (by assumption) ?_
  rotate_left
  · intro w' hSw; first | (go_simp; done) | (go_simp; with_reducible rfl)
  simp only [Act.put, List.getElem_toArray, List.getElem_cons_zero, List.getElem_cons_succ, List.setIfInBounds_toArray, List.set_cons_zero, List.set_cons_succ]
  refine wpAnyH_ready (rs := [3]) (by kernel_rfl) (by simp) ?_
  refine AllReadyH.cons rfl (fun K hK => ?_) ?_
  · go_simp
    refine hK.out _ _ q2 (fun hHeld => ?_)
    clear hK K
    refine wpAnyH_ready (rs := [11]) (by kernel_rfl) (by simp) ?_
    refine AllReadyH.cons rfl (fun K hK => ?_) ?_
    · go_simp
      go_at_call 130
      refine (HGT.out w2.drew _ (HRM.out _ (H2.out.kept (Below.refl _ _).drew))).mono ?_; rintro e w3 ⟨v, rfl, ho, hb⟩
      obtain ⟨A', n', c', rfl⟩ : ∃ A n c, v = .slice A n c := (by obtain ⟨A, c, e, _⟩ := ho.rm.2; exact ⟨A, _, c, e⟩)
      have H3 := Lib.hid (H2.out.kept ((Below.refl _ _).drew.trans hb))
      have H4 := Lib.hid (HPN.out w3 _ H3.out (ho.low H2.out.pn.up))
      have q3 := HQ.out w3 H3.out
      obtain ⟨r0, r1, r2⟩ := HG.out w3 H3.out
      have q4 := HQ4.out w3 (moveG (seenG s) s.top s.bottom 1 s.cur.a).rows (moveG (seenG s) s.top s.bottom 1 s.cur.a).cols (.slice A' n' c') H3.out
      have f2 : ∀ j, w3.frozen? ⟨w.heap.size, j, none⟩ = false := H3.out.pn.box.free
      clear ho hb
      refine hK.out _ _ q3 (fun hHeld => ?_)
      clear hK K
      refine wpAnyH_take (i := 12) (v := ?_) rfl (by kernel_rfl) (by kernel_rfl) (by kernel_rfl) (fun _ _ _ h => h) (Or.inl ⟨by rfl, ?_⟩) (by assumption) ?_
      rotate_left
      · intro w' hSw; first | (go_simp; done) | (go_simp; with_reducible rfl)
      simp only [Act.put, List.getElem_toArray, List.getElem_cons_zero, List.getElem_cons_succ, List.setIfInBounds_toArray, List.set_cons_zero, List.set_cons_succ]
      refine wpAnyH_ready (rs := [13]) (by kernel_rfl) (by simp) ?_
      refine AllReadyH.cons rfl (fun K hK => ?_) ?_
      · go_simp
        refine hK.out _ _ q4 (fun hHeld => ?_)
        clear hK K
        refine wpAnyH_done (by kernel_rfl) ?_ _
        show Exit.then _ _ _ _ (pput w3 w.heap.size p (moveG (seenG s) s.top s.bottom 1 s.cur.a).rows (moveG (seenG s) s.top s.bottom 1 s.cur.a).cols (.slice A' n' c'))
        clear r0 r1 r2 q3 q4 f2 g0 g1 g2 q2 q7 qe hHeld HPN HQ HG HQ4 H3 H2 HRM HGT
        generalize pput w3 w.heap.size p (moveG (seenG s) s.top s.bottom 1 s.cur.a).rows (moveG (seenG s) s.top s.bottom 1 s.cur.a).cols (.slice A' n' c') = w4 at H4 ⊢
        have HW := Lib.hid H4.out.wrap
        have c9 : w4.cell? ⟨w.heap.size, 9, none⟩ = some (.bool (putG s (moveG (seenG s) s.top s.bottom 1 s.cur.a)).cur.wrap) := H4.out.pn.box.cell 9
        have f9 : w4.frozen? ⟨w.heap.size, 9, none⟩ = false := H4.out.pn.box.free 9
        go_wp2_with (first
          | (refine wp_loadS (b := w.heap.size) (s := noWrap (putG s (moveG (seenG s) s.top s.bottom 1 s.cur.a))) rfl rfl rfl HW.out.pn.box ?_)
          | (refine wp_storeS (b := w.heap.size + 1) rfl rfl rfl rfl rfl HW.out.pn.own.in_.one HW.out.b1 rfl ?_; intro w9 h9))
        refine bodyPost_ret (ret1S rfl rfl h9.box) rfl ?_
        exact ⟨_, _, _, rfl, Own.low (h9.own HW.out.pn.own (by omega)) (by omega), h9.below _ _ (by omega) HW.out.bel⟩
      exact AllReadyH.nil
    exact AllReadyH.nil
  exact AllReadyH.nil
set_option maxHeartbeats 6400000 in
theorem refDown_step (s : S) (x y z : Value) (w : World) (h : In w s x y z) (hok : Ok s) (hr : ¬ s.cur.row = s.bottom) (hlt : s.cur.row < s.main.rows - 1) :
    Calls Tryz.prog 89 #[sv s x y z] w fun e w' => ∃ x' y' z', e = .returned (sv (noWrap (atRow s (s.cur.row + 1))) x' y' z') ∧ Own w' w.heap.size (noWrap (atRow s (s.cur.row + 1))) x' y' z' ∧ Below w.heap.size w w' := by
  have F := Lib.hid hok.facts
  have H0 := Lib.hid (Rz.start w s x y z)
  have HCP := Lib.hid (copyScreen_any s x y z _ (h.kept H0.out.bel) hok.lens)
  have hw1 : IntKind.i64.wrap (s.cur.row + 1) = s.cur.row + 1 := by have := F.out.row0; have := F.out.row1; have := F.out.r40; rw [IntKind.wrap_i64]; omega
  have hw2 : IntKind.i64.wrap (s.main.rows - 1) = s.main.rows - 1 := by have := F.out.r1; have := F.out.r40; rw [IntKind.wrap_i64]; omega
  clear h hok
  go_enter Tryz.func89, Tryz.ntmps89
  go_wp2_with (first
    | (refine wp_allocS1 (w := w) rfl rfl ?_)
    | (refine wp_loadS (b := w.heap.size) (s := s) rfl rfl rfl H0.out.b0 ?_))
  refine HCP.out.mono ?_; rintro e w1 ⟨x1, y1, z1, rfl, ho, hb⟩
  have H1 := Lib.hid (H0.out.kept hb)
  have HO1 := Lib.hid (ho.low H0.out.up)
  clear hb ho H0 HCP
  obtain ⟨X, hX⟩ : ∃ X, seenX s x1 y1 = X := ⟨_, rfl⟩
  obtain ⟨AX, nX, cX, rfl⟩ : ∃ A n c, X = .slice A n c := (by subst hX; obtain ⟨A, c, e, _⟩ := (seenX_rm HO1.out.in_).2; exact ⟨A, _, c, e⟩)
  have HSC := Lib.hid (seat_arr s x1 y1 z1)
  rw [hX] at HSC
  have HRM : Hid (∀ W, Pb w s x1 y1 z1 W → Rm W (.slice AX nX cX) (seenG s).cells) := Lib.hid fun W k => hX ▸ seenX_rm k.pn.own.in_
  clear hX
  go_wp2_with (refine wp_storeS_then (b := w.heap.size) (A := sarr s x1 y1 z1) (T := Pb w s x1 y1 z1) rfl rfl rfl rfl rfl HO1.out.in_.one H1.out.b0 rfl (fun _ k => Pb.start H1.out HO1.out k) ?_; intro w2 H2)
  have HPS := Lib.hid (refSeen8p s x1 y1 z1 w.heap.size w2 H2.out.pn.box)
  clear H1 HO1
  obtain ⟨p, hp⟩ : ∃ p, seatO s = p := ⟨_, rfl⟩
  rw [hp] at HSC HPS
  have g0 : w2.cell? ⟨w.heap.size, p, none⟩ = some (.int .i64 s.main.rows) := by rw [H2.out.pn.box.cell, ← F.out.gr]; exact HSC.out.1
  clear hp HSC HRM
  refine HPS.out.mono ?_; rintro e w2' ⟨rfl, rfl⟩
  have q7 : w2.cell? ⟨w.heap.size, 7, none⟩ = some (.int .i64 s.cur.row) := H2.out.pn.box.cell 7
  have qe : w2.cell? ⟨w.heap.size, 38, none⟩ = some (.int .i64 s.bottom) := H2.out.pn.box.cell 38
  have f7 : ∀ j, w2.frozen? ⟨w.heap.size, j, none⟩ = false := H2.out.pn.box.free
  go_upto_region 5 with (fail)
  go_quiet (fail)
  go_upto_region 6 with (fail)
  have HQQ := Lib.hid (bel_drewN w2 nq)
  generalize w2.drewN nq = wq at HQQ ⊢
  have H2 := Lib.hid (H2.out.kept HQQ.out)
  clear q7 qe f7 g0
  have q7 : wq.cell? ⟨w.heap.size, 7, none⟩ = some (.int .i64 s.cur.row) := H2.out.pn.box.cell 7
  have c9 : wq.cell? ⟨w.heap.size, 9, none⟩ = some (.bool s.cur.wrap) := H2.out.pn.box.cell 9
  have f7 : ∀ j, wq.frozen? ⟨w.heap.size, j, none⟩ = false := H2.out.pn.box.free
  have HW := Lib.hid ((H2.out.row (s.cur.row + 1)).wrap)
  go_wp2_with (first
    | (refine wp_loadS (b := w.heap.size) (s := noWrap (atRow s (s.cur.row + 1))) rfl rfl rfl HW.out.pn.box ?_)
    | (refine wp_storeS (b := w.heap.size + 1) rfl rfl rfl rfl rfl HW.out.pn.own.in_.one HW.out.b1 rfl ?_; intro w9 h9))
  refine bodyPost_ret (ret1S rfl rfl h9.box) rfl ?_
  exact ⟨_, _, _, rfl, Own.low (h9.own HW.out.pn.own (by omega)) (by omega), h9.below _ _ (by omega) HW.out.bel⟩
set_option maxHeartbeats 6400000 in
theorem refDown_stay (s : S) (x y z : Value) (w : World) (h : In w s x y z) (hok : Ok s) (hr : ¬ s.cur.row = s.bottom) (hlt : ¬ s.cur.row < s.main.rows - 1) :
    Calls Tryz.prog 89 #[sv s x y z] w fun e w' => ∃ x' y' z', e = .returned (sv (noWrap s) x' y' z') ∧ Own w' w.heap.size (noWrap s) x' y' z' ∧ Below w.heap.size w w' := by
  have F := Lib.hid hok.facts
  have H0 := Lib.hid (Rz.start w s x y z)
  have HCP := Lib.hid (copyScreen_any s x y z _ (h.kept H0.out.bel) hok.lens)
  have hw1 : IntKind.i64.wrap (s.cur.row + 1) = s.cur.row + 1 := by have := F.out.row0; have := F.out.row1; have := F.out.r40; rw [IntKind.wrap_i64]; omega
  have hw2 : IntKind.i64.wrap (s.main.rows - 1) = s.main.rows - 1 := by have := F.out.r1; have := F.out.r40; rw [IntKind.wrap_i64]; omega
  clear h hok
  go_enter Tryz.func89, Tryz.ntmps89
  go_wp2_with (first
    | (refine wp_allocS1 (w := w) rfl rfl ?_)
    | (refine wp_loadS (b := w.heap.size) (s := s) rfl rfl rfl H0.out.b0 ?_))
  refine HCP.out.mono ?_; rintro e w1 ⟨x1, y1, z1, rfl, ho, hb⟩
  have H1 := Lib.hid (H0.out.kept hb)
  have HO1 := Lib.hid (ho.low H0.out.up)
  clear hb ho H0 HCP
  obtain ⟨X, hX⟩ : ∃ X, seenX s x1 y1 = X := ⟨_, rfl⟩
  obtain ⟨AX, nX, cX, rfl⟩ : ∃ A n c, X = .slice A n c := (by subst hX; obtain ⟨A, c, e, _⟩ := (seenX_rm HO1.out.in_).2; exact ⟨A, _, c, e⟩)
  have HSC := Lib.hid (seat_arr s x1 y1 z1)
  rw [hX] at HSC
  have HRM : Hid (∀ W, Pb w s x1 y1 z1 W → Rm W (.slice AX nX cX) (seenG s).cells) := Lib.hid fun W k => hX ▸ seenX_rm k.pn.own.in_
  clear hX
  go_wp2_with (refine wp_storeS_then (b := w.heap.size) (A := sarr s x1 y1 z1) (T := Pb w s x1 y1 z1) rfl rfl rfl rfl rfl HO1.out.in_.one H1.out.b0 rfl (fun _ k => Pb.start H1.out HO1.out k) ?_; intro w2 H2)
  have HPS := Lib.hid (refSeen8p s x1 y1 z1 w.heap.size w2 H2.out.pn.box)
  clear H1 HO1
  obtain ⟨p, hp⟩ : ∃ p, seatO s = p := ⟨_, rfl⟩
  rw [hp] at HSC HPS
  have g0 : w2.cell? ⟨w.heap.size, p, none⟩ = some (.int .i64 s.main.rows) := by rw [H2.out.pn.box.cell, ← F.out.gr]; exact HSC.out.1
  clear hp HSC HRM
  refine HPS.out.mono ?_; rintro e w2' ⟨rfl, rfl⟩
  have q7 : w2.cell? ⟨w.heap.size, 7, none⟩ = some (.int .i64 s.cur.row) := H2.out.pn.box.cell 7
  have qe : w2.cell? ⟨w.heap.size, 38, none⟩ = some (.int .i64 s.bottom) := H2.out.pn.box.cell 38
  have f7 : ∀ j, w2.frozen? ⟨w.heap.size, j, none⟩ = false := H2.out.pn.box.free
  go_upto_region 5 with (fail)
  go_quiet (fail)
  go_upto_region 7 with (fail)
  have HQQ := Lib.hid (bel_drewN w2 nq)
  generalize w2.drewN nq = wq at HQQ ⊢
  have H2 := Lib.hid (H2.out.kept HQQ.out)
  clear q7 qe f7 g0
  have q7 : wq.cell? ⟨w.heap.size, 7, none⟩ = some (.int .i64 s.cur.row) := H2.out.pn.box.cell 7
  have c9 : wq.cell? ⟨w.heap.size, 9, none⟩ = some (.bool s.cur.wrap) := H2.out.pn.box.cell 9
  have f7 : ∀ j, wq.frozen? ⟨w.heap.size, j, none⟩ = false := H2.out.pn.box.free
  have HW := Lib.hid (H2.out.wrap)
  go_wp2_with (first
    | (refine wp_loadS (b := w.heap.size) (s := noWrap s) rfl rfl rfl HW.out.pn.box ?_)
    | (refine wp_storeS (b := w.heap.size + 1) rfl rfl rfl rfl rfl HW.out.pn.own.in_.one HW.out.b1 rfl ?_; intro w9 h9))
  refine bodyPost_ret (ret1S rfl rfl h9.box) rfl ?_
  exact ⟨_, _, _, rfl, Own.low (h9.own HW.out.pn.own (by omega)) (by omega), h9.below _ _ (by omega) HW.out.bel⟩
theorem noWrap_putG (s : S) (G : Gr) : noWrap (putG s G) = putG (noWrap s) G := by
  unfold putG
  by_cases h : s.swapped = true
  · rw [if_pos h, if_pos (show (noWrap s).swapped = true from h)]; rfl
  · rw [if_neg h, if_neg (show ¬ (noWrap s).swapped = true from h)]; rfl
theorem refDown8 (s : S) (x y z : Value) (w : World) (h : In w s x y z) (hok : Ok s) :
    Calls Tryz.prog 89 #[sv s x y z] w fun e w' => ∃ x' y' z', e = .returned (sv (downS s) x' y' z') ∧ Own w' w.heap.size (downS s) x' y' z' ∧ Below w.heap.size w w' := by
  by_cases hr : s.cur.row = s.bottom
  · have e : downS s = noWrap (putG s (moveG (seenG s) s.top s.bottom 1 s.cur.a)) := by unfold downS; rw [if_pos hr, noWrap_putG]
    rw [e]
    exact refDown_move s x y z w h hok hr
  · have f := hok.facts
    by_cases hlt : s.cur.row < s.main.rows - 1
    · have e : downS s = noWrap (atRow s (s.cur.row + 1)) := by
        unfold downS; rw [if_neg hr, show min (s.cur.row + 1) (s.main.rows - 1) = s.cur.row + 1 by omega]; rfl
      rw [e]
      exact refDown_step s x y z w h hok hr hlt
    · have e : downS s = noWrap s := by
        have := f.row1
        unfold downS; rw [if_neg hr, show min (s.cur.row + 1) (s.main.rows - 1) = s.cur.row by omega]; rfl
      rw [e]
      exact refDown_stay s x y z w h hok hr hlt
end Scr
end
end Go.Proofs.YtceaoadlhdgnmaaGreatDoor
