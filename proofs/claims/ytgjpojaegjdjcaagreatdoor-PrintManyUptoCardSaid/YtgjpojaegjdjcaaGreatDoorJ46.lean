/- Joined texts: PrnDown. -/
import Derived.Test.YtgjpojaegjdjcaaGreatDoorJ1
import Derived.Test.YtgjpojaegjdjcaaGreatDoorJ2
import Derived.Test.YtgjpojaegjdjcaaGreatDoorJ3
import Derived.Test.YtgjpojaegjdjcaaGreatDoorJ4
import Derived.Test.YtgjpojaegjdjcaaGreatDoorJ5
import Derived.Test.YtgjpojaegjdjcaaGreatDoorJ6
import Derived.Test.YtgjpojaegjdjcaaGreatDoorJ7
import Derived.Test.YtgjpojaegjdjcaaGreatDoorJ8
import Derived.Test.YtgjpojaegjdjcaaGreatDoorJ9
import Derived.Test.YtgjpojaegjdjcaaGreatDoorJ10
import Derived.Test.YtgjpojaegjdjcaaGreatDoorJ11
import Derived.Test.YtgjpojaegjdjcaaGreatDoorJ12
import Derived.Test.YtgjpojaegjdjcaaGreatDoorJ13
import Derived.Test.YtgjpojaegjdjcaaGreatDoorJ14
import Derived.Test.YtgjpojaegjdjcaaGreatDoorJ15
import Derived.Test.YtgjpojaegjdjcaaGreatDoorJ17
import Derived.Test.YtgjpojaegjdjcaaGreatDoorJ18
import Derived.Test.YtgjpojaegjdjcaaGreatDoorJ19
import Derived.Test.YtgjpojaegjdjcaaGreatDoorJ20
import Derived.Test.YtgjpojaegjdjcaaGreatDoorJ43
import Derived.Test.YtgjpojaegjdjcaaGreatDoorJ44
import Derived.Test.YtgjpojaegjdjcaaGreatDoorJ45
import Derived.Test.YtgjpojaegjdjcaaGreatDoorJ61
import Derived.BigRegion
import Derived.BigQuiet
section
/- A line feed, and one the other way, on a screen in a box: the developers'. -/
namespace Go.Proofs.YtgjpojaegjdjcaaGreatDoor
set_option maxRecDepth 100000
open Go.RowKit
namespace Scr
open Go.Proofs.YtgjpojaegjdjcaaGreatDoor.Row

theorem bel_drewN (w : World) (n : Nat) : Below w.heap.size w (w.drewN n) := ⟨rfl, rfl, rfl, Nat.le_refl _, fun _ _ => rfl⟩
theorem pput_cell {w : World} {b p j : Nat} {R C : Int} {v : Value} (h3 : p ≤ 3) (hj : 5 < j) : (pput w b p R C v).cell? ⟨b, j, none⟩ = w.cell? ⟨b, j, none⟩ := by
  unfold pput
  rw [World.cell?_setCell_other _ _ _ _ (by intro e; injection e with _ e; omega), World.cell?_setCell_other _ _ _ _ (by intro e; injection e with _ e; omega), World.cell?_setCell_other _ _ _ _ (by intro e; injection e with _ e; omega)]
theorem Pn.lo {w : World} {b base : Nat} {s : S} {x y z : Value} (h : Pn w b base s x y z) : b ≤ w.heap.size := by have := h.lt; have := h.up; omega
set_option maxHeartbeats 6400000 in
theorem pdown_move (s : S) (x y z : Value) (b base : Nat) (w : World) (h : Pn w b base s x y z) (hok : Ok s) (hr : s.cur.row = s.bottom) :
    Calls Tryz.prog 55 #[.pointer (some ⟨b, 0, none⟩)] w fun e w' => e = .returned (.tuple #[]) ∧ ∃ x' y', Pn w' b base (putG (noWrap s) (moveG (seenG s) s.top s.bottom 1 s.cur.a)) x' y' z ∧ (Apart x y → Apart x' y') ∧ Below b w w' ∧ Only b w w' := by
  have F := Lib.hid hok.facts
  have H1 := Lib.hid h.wrap
  have HB1 : Hid (Below b w (w.setCell ⟨b, 9, none⟩ (.bool false))) := Lib.hid ((Below.refl b w).setCell (show b ≤ b by omega) _)
  have HO1 : Hid (Only b w (w.setCell ⟨b, 9, none⟩ (.bool false))) := Lib.hid ((Only.refl b w).set 9 _)
  have c0 : w.cell? ⟨b, 9, none⟩ = some (.bool s.cur.wrap) := h.box.cell 9
  have f0 : w.frozen? ⟨b, 9, none⟩ = false := h.box.free 9
  have HSC := Lib.hid (seat_arr (noWrap s) x y z)
  have HRM : Hid (∀ W, Own W base (noWrap s) x y z → Rm W (seenX (noWrap s) x y) (seenG s).cells) := Lib.hid fun W k => seenX_rm k.in_
  obtain ⟨X, hX⟩ : ∃ X, seenX (noWrap s) x y = X := ⟨_, rfl⟩
  rw [hX] at HSC HRM
  clear hX
  obtain ⟨AX, nX, cX, rfl⟩ : ∃ A n c, X = .slice A n c := (by obtain ⟨A, c, e, _⟩ := (HRM.out _ (H1.out.kept (Below.refl _ _).drew).own).2; exact ⟨A, _, c, e⟩)
  have HPS := Lib.hid (penSeen (noWrap s) x y z b)
  have HPN : Hid (∀ W v, Pn W b base (noWrap s) x y z → OwnCs W base v (moveG (seenG s) s.top s.bottom 1 s.cur.a).cells → Pn (pput W b (seatO (noWrap s)) (moveG (seenG s) s.top s.bottom 1 s.cur.a).rows (moveG (seenG s) s.top s.bottom 1 s.cur.a).cols v) b base (putG (noWrap s) (moveG (seenG s) s.top s.bottom 1 s.cur.a)) (putX (noWrap s) x v) (putY (noWrap s) y v) z) := Lib.hid fun W v k hv => k.seen (G := moveG (seenG s) s.top s.bottom 1 s.cur.a) hv
  have HUP : Hid (∀ W, Rm W (.slice AX nX cX) (seenG s).cells → _) := Lib.hid fun W k => upG_any (seenG s) (.slice AX nX cX) s.top s.bottom s.cur.a W F.out.g k F.out.a F.out.top0 F.out.tb (by have := F.out.gr; have := F.out.bot; omega)
  obtain ⟨p, hp⟩ : ∃ p, seatO (noWrap s) = p := ⟨_, rfl⟩
  rw [hp] at HSC HPS HPN
  have HP3 : Hid (p ≤ 3) := Lib.hid (by rw [← hp]; unfold seatO; split <;> omega)
  have HQ : Hid (∀ W, SBox W b (noWrap s) x y z → W.cell? ⟨b, 37, none⟩ = some (.int .i64 s.top) ∧ W.cell? ⟨b, 38, none⟩ = some (.int .i64 s.bottom) ∧ W.cell? ⟨b, 10, none⟩ = some (.int .i64 s.cur.a.fg) ∧ W.cell? ⟨b, 11, none⟩ = some (.int .i64 s.cur.a.bg) ∧ W.cell? ⟨b, 12, none⟩ = some (.int .i64 s.cur.a.flags)) := Lib.hid fun W k =>
    ⟨k.cell 37, k.cell 38, k.cell 10, k.cell 11, k.cell 12⟩
  have HG : Hid (∀ W, SBox W b (noWrap s) x y z → W.cell? ⟨b, p, none⟩ = some (.int .i64 (seenG s).rows) ∧ W.cell? ⟨b, p + 1, none⟩ = some (.int .i64 (seenG s).cols) ∧ W.cell? ⟨b, p + 2, none⟩ = some (.slice AX nX cX)) := Lib.hid fun W k =>
    ⟨by rw [k.cell]; exact HSC.out.1, by rw [k.cell]; exact HSC.out.2.1, by rw [k.cell]; exact HSC.out.2.2⟩
  have HQ4 : Hid (∀ W R C v, SBox W b (noWrap s) x y z → (pput W b p R C v).cell? ⟨b, 37, none⟩ = some (.int .i64 s.top) ∧ (pput W b p R C v).cell? ⟨b, 38, none⟩ = some (.int .i64 s.bottom) ∧ (pput W b p R C v).cell? ⟨b, 10, none⟩ = some (.int .i64 s.cur.a.fg) ∧ (pput W b p R C v).cell? ⟨b, 11, none⟩ = some (.int .i64 s.cur.a.bg) ∧ (pput W b p R C v).cell? ⟨b, 12, none⟩ = some (.int .i64 s.cur.a.flags)) := Lib.hid fun W R C v k => by
    have h3 := HP3.out
    rw [pput_cell h3 (by omega), pput_cell h3 (by omega), pput_cell h3 (by omega), pput_cell h3 (by omega), pput_cell h3 (by omega)]
    exact HQ.out W k
  clear hp h hok HSC
  go_enter Tryz.func55, Tryz.ntmps55
  go_upto_region 1 with (fail)
  change Code.wp _ _ _ _ (w.setCell ⟨b, 9, none⟩ (.bool false))
  clear c0 f0
  generalize w.setCell ⟨b, 9, none⟩ (.bool false) = w1 at H1 HB1 HO1 ⊢
  have q7 : w1.cell? ⟨b, 7, none⟩ = some (.int .i64 s.cur.row) := H1.out.box.cell 7
  have q2 := HQ.out w1 H1.out.box
  have qe : w1.cell? ⟨b, 38, none⟩ = some (.int .i64 s.bottom) := q2.2.1
  go_wp2_with fail
  refine (HPS.out w1 H1.out.box).mono ?_; rintro e w1' ⟨rfl, rfl⟩
  go_upto_region 2 with (fail)
  go_quiet (fail)
  clear q7 qe q2
  have HLO := Lib.hid H1.out.lo
  go_upto_region 3 with (fail)
  have HQQ := Lib.hid (bel_drewN w1 nq)
  generalize w1.drewN nq = wq at HQQ ⊢
  have H1 := Lib.hid (H1.out.kept HQQ.out)
  have HB1 := Lib.hid (HB1.out.trans (HQQ.out.mono HLO.out))
  have HO1 := Lib.hid (Only.bel HO1.out HQQ.out)
  have q2 := HQ.out wq H1.out.box
  obtain ⟨g0, g1, g2⟩ := HG.out wq H1.out.box
  have HT : Hid (∀ w2, Below wq.drew.heap.size wq.drew w2 → Pn w2 b base (noWrap s) x y z ∧ Below b w w2 ∧ Only b w w2) := Lib.hid fun w2 hb => by
    have hb' : Below wq.heap.size wq w2 := (Below.refl _ _).drew.trans hb
    exact ⟨H1.out.kept hb', HB1.out.trans (hb'.mono (by have := H1.out.lt; have := H1.out.up; omega)), Only.bel HO1.out hb'⟩
  refine wp_region_held_drew (S := fun w' => w'.cell? ⟨b, 37, none⟩ = some (.int .i64 s.top) ∧ w'.cell? ⟨b, 38, none⟩ = some (.int .i64 s.bottom) ∧ w'.cell? ⟨b, 10, none⟩ = some (.int .i64 s.cur.a.fg) ∧ w'.cell? ⟨b, 11, none⟩ = some (.int .i64 s.cur.a.bg) ∧ w'.cell? ⟨b, 12, none⟩ = some (.int .i64 s.cur.a.flags)) (by kernel_rfl) q2 (fun hHeld => ?_)
  refine wpAnyH_take (i := 0) (v := ?_) rfl (by kernel_rfl) (by kernel_rfl) (by kernel_rfl) (fun _ _ _ h => h) (Or.inl ⟨by rfl, ?_⟩) (by assumption) ?_
  rotate_left
  · intro w' hSw; first | (go_simp; done) | (go_simp; with_reducible rfl)
  simp only [Act.put, List.getElem_toArray, List.getElem_cons_zero, List.setIfInBounds_toArray, List.set_cons_zero, List.set_cons_succ]
  refine wpAnyH_take (i := 1) (v := ?_) rfl (by kernel_rfl) (by kernel_rfl) (by kernel_rfl) (fun _ _ _ h => h) (Or.inl ⟨by rfl, ?_⟩) (by assumption) ?_
  rotate_left
  · intro w' hSw; first | (go_simp; done) | (go_simp; with_reducible rfl)
  simp only [Act.put, List.getElem_toArray, List.getElem_cons_zero, List.getElem_cons_succ, List.setIfInBounds_toArray, List.set_cons_zero, List.set_cons_succ]
  refine wpAnyH_take (i := 2) (v := ?_) rfl (by kernel_rfl) (by kernel_rfl) (by kernel_rfl) (fun _ _ _ h => h) (Or.inl ⟨by rfl, ?_⟩) (by assumption) ?_
  rotate_left
  · intro w' hSw; first | (go_simp; done) | (go_simp; with_reducible rfl)
  simp only [Act.put, List.getElem_toArray, List.getElem_cons_zero, List.getElem_cons_succ, List.setIfInBounds_toArray, List.set_cons_zero, List.set_cons_succ]
  refine wpAnyH_take (i := 4) (v := ?_) rfl (by kernel_rfl) (by kernel_rfl) (by kernel_rfl) (fun _ _ _ h => h) (Or.inl ⟨by rfl, ?_⟩) (by assumption) ?_
  rotate_left
  · intro w' hSw; first | (go_simp; done) | (go_simp; with_reducible rfl)
  simp only [Act.put, List.getElem_toArray, List.getElem_cons_zero, List.getElem_cons_succ, List.setIfInBounds_toArray, List.set_cons_zero, List.set_cons_succ]
  refine wpAnyH_take (i := 5) (v := ?_) rfl (by kernel_rfl) (by kernel_rfl) (by kernel_rfl) (fun _ _ _ h => h) (Or.inl ⟨by rfl, ?_⟩) (by assumption) ?_
  rotate_left
  · intro w' hSw; first | (go_simp; done) | (go_simp; with_reducible rfl)
  simp only [Act.put, List.getElem_toArray, List.getElem_cons_zero, List.getElem_cons_succ, List.setIfInBounds_toArray, List.set_cons_zero, List.set_cons_succ]
  refine wpAnyH_take (i := 6) (v := ?_) rfl (by kernel_rfl) (by kernel_rfl) (by kernel_rfl) (fun _ _ _ h => h) (Or.inl ⟨by rfl, ?_⟩) (by assumption) ?_
  rotate_left
  · intro w' hSw; first | (go_simp; done) | (go_simp; with_reducible rfl)
  simp only [Act.put, List.getElem_toArray, List.getElem_cons_zero, List.getElem_cons_succ, List.setIfInBounds_toArray, List.set_cons_zero, List.set_cons_succ]
  refine wpAnyH_take (i := 7) (v := ?_) rfl (by kernel_rfl) (by kernel_rfl) (by kernel_rfl) (fun _ _ _ h => h) (Or.inl ⟨by rfl, ?_⟩) (by assumption) ?_
  rotate_left
  · intro w' hSw; first | (go_simp; done) | (go_simp; with_reducible rfl)
  simp only [Act.put, List.getElem_toArray, List.getElem_cons_zero, List.getElem_cons_succ, List.setIfInBounds_toArray, List.set_cons_zero, List.set_cons_succ]
  refine wpAnyH_take (i := 8) (v := ?_) rfl (by kernel_rfl) (by kernel_rfl) (by kernel_rfl) (fun _ _ _ h => h) (Or.inl ⟨by rfl, ?_⟩) (by assumption) ?_
  rotate_left
  · intro w' hSw; first | (go_simp; done) | (go_simp; with_reducible rfl)
  simp only [Act.put, List.getElem_toArray, List.getElem_cons_zero, List.getElem_cons_succ, List.setIfInBounds_toArray, List.set_cons_zero, List.set_cons_succ]
  refine wpAnyH_take (i := 9) (v := ?_) rfl (by kernel_rfl) (by kernel_rfl) (by kernel_rfl) (fun _ _ _ h => h) (Or.inl ⟨by rfl, ?_⟩) (by assumption) ?_
  rotate_left
  · intro w' hSw; first | (go_simp; done) | (go_simp; with_reducible rfl)
  simp only [Act.put, List.getElem_toArray, List.getElem_cons_zero, List.getElem_cons_succ, List.setIfInBounds_toArray, List.set_cons_zero, List.set_cons_succ]
  refine wpAnyH_take (i := 10) (v := ?_) rfl (by kernel_rfl) (by kernel_rfl) (by kernel_rfl) (fun _ _ _ h => h) (Or.inl ⟨by rfl, ?_⟩) (by assumption) ?_
  rotate_left
  · intro w' hSw; first | (go_simp; done) | (go_simp; with_reducible rfl)
  simp only [Act.put, List.getElem_toArray, List.getElem_cons_zero, List.getElem_cons_succ, List.setIfInBounds_toArray, List.set_cons_zero, List.set_cons_succ]
  refine wpAnyH_take (i := 11) (v := ?_) rfl (by kernel_rfl) (by kernel_rfl) (by kernel_rfl) (fun _ _ _ h => h) (Or.inl ⟨by rfl, ?_⟩) (by assumption) ?_
  rotate_left
  · intro w' hSw; first | (go_simp; done) | (go_simp; with_reducible rfl)
  simp only [Act.put, List.getElem_toArray, List.getElem_cons_zero, List.getElem_cons_succ, List.setIfInBounds_toArray, List.set_cons_zero, List.set_cons_succ]
  refine wpAnyH_take (i := 12) (v := ?_) rfl (by kernel_rfl) (by kernel_rfl) (by kernel_rfl) (fun _ _ _ h => h) (Or.inl ⟨by rfl, ?_⟩) (by assumption) ?_
  rotate_left
  · intro w' hSw; first | (go_simp; done) | (go_simp; with_reducible rfl)
  simp only [Act.put, List.getElem_toArray, List.getElem_cons_zero, List.getElem_cons_succ, List.setIfInBounds_toArray, List.set_cons_zero, List.set_cons_succ]
  refine wpAnyH_take (i := 13) (v := ?_) rfl (by kernel_rfl) (by kernel_rfl) (by kernel_rfl) (fun _ _ _ h => h) (Or.inl ⟨by rfl, ?_⟩) (by assumption) ?_
  rotate_left
  · intro w' hSw; first | (go_simp; done) | (go_simp; with_reducible rfl)
  simp only [Act.put, List.getElem_toArray, List.getElem_cons_zero, List.getElem_cons_succ, List.setIfInBounds_toArray, List.set_cons_zero, List.set_cons_succ]
  refine wpAnyH_take (i := 14) (v := ?_) rfl (by kernel_rfl) (by kernel_rfl) (by kernel_rfl) (fun _ _ _ h => h) (Or.inl ⟨by rfl, ?_⟩) (by assumption) ?_
  rotate_left
  · intro w' hSw; first | (go_simp; done) | (go_simp; with_reducible rfl)
  simp only [Act.put, List.getElem_toArray, List.getElem_cons_zero, List.getElem_cons_succ, List.setIfInBounds_toArray, List.set_cons_zero, List.set_cons_succ]
  refine wpAnyH_take (i := 15) (v := ?_) rfl (by kernel_rfl) (by kernel_rfl) (by kernel_rfl) (fun _ _ _ h => h) (Or.inl ⟨by rfl, ?_⟩) (by assumption) ?_
  rotate_left
  · intro w' hSw; first | (go_simp; done) | (go_simp; with_reducible rfl)
  simp only [Act.put, List.getElem_toArray, List.getElem_cons_zero, List.getElem_cons_succ, List.setIfInBounds_toArray, List.set_cons_zero, List.set_cons_succ]
  refine wpAnyH_take (i := 16) (v := ?_) rfl (by kernel_rfl) (by kernel_rfl) (by kernel_rfl) (fun _ _ _ h => h) (Or.inl ⟨by rfl, ?_⟩) (by assumption) ?_
  rotate_left
  · intro w' hSw; first | (go_simp; done) | (go_simp; with_reducible rfl)
  simp only [Act.put, List.getElem_toArray, List.getElem_cons_zero, List.getElem_cons_succ, List.setIfInBounds_toArray, List.set_cons_zero, List.set_cons_succ]
  refine wpAnyH_ready (rs := [3]) (by kernel_rfl) (by simp) ?_
  refine AllReadyH.cons rfl (fun K hK => ?_) ?_
  · go_simp
    refine hK.out _ _ q2 (fun hHeld => ?_)
    clear hK K
    refine wpAnyH_ready (rs := [17]) (by kernel_rfl) (by simp) ?_
    refine AllReadyH.cons rfl (fun K hK => ?_) ?_
    · go_simp
      go_at_call 89
      refine (HUP.out wq.drew (HRM.out _ (H1.out.kept (Below.refl _ _).drew).own)).mono ?_; rintro e w2 ⟨v, rfl, ho, hb⟩
      obtain ⟨A', n', c', rfl⟩ : ∃ A n c, v = .slice A n c := (by obtain ⟨A, c, e, _⟩ := ho.rm.2; exact ⟨A, _, c, e⟩)
      have H2 := Lib.hid (HT.out w2 hb)
      have H3 := Lib.hid (HPN.out w2 _ H2.out.1 (ho.low H1.out.up))
      have HAP : Hid (Apart (putX (noWrap s) x (.slice A' n' c')) (putY (noWrap s) y (.slice A' n' c'))) := Lib.hid (put_apart (fun k e => (H1.out.own.m.lt k e).2) (fun k e => (H1.out.own.o.lt k e).2) (fun k e => (ho.lt k e).1))
      have q3 := HQ.out w2 H2.out.1.box
      obtain ⟨r0, r1, r2⟩ := HG.out w2 H2.out.1.box
      have q4 := HQ4.out w2 (moveG (seenG s) s.top s.bottom 1 s.cur.a).rows (moveG (seenG s) s.top s.bottom 1 s.cur.a).cols (.slice A' n' c') H2.out.1.box
      have f2 : ∀ j, w2.frozen? ⟨b, j, none⟩ = false := H2.out.1.box.free
      clear ho hb
      refine hK.out _ _ q3 (fun hHeld => ?_)
      clear hK K
      refine wpAnyH_take (i := 18) (v := ?_) rfl (by kernel_rfl) (by kernel_rfl) (by kernel_rfl) (fun _ _ _ h => h) (Or.inl ⟨by rfl, ?_⟩) (by assumption) ?_
      rotate_left
      · intro w' hSw; first | (go_simp; done) | (go_simp; with_reducible rfl)
      simp only [Act.put, List.getElem_toArray, List.getElem_cons_zero, List.getElem_cons_succ, List.setIfInBounds_toArray, List.set_cons_zero, List.set_cons_succ]
      refine wpAnyH_take (i := 19) (v := ?_) rfl (by kernel_rfl) (by kernel_rfl) (by kernel_rfl) (fun _ _ _ h => h) (Or.inl ⟨by rfl, ?_⟩) (by assumption) ?_
      rotate_left
      · intro w' hSw; first | (go_simp; done) | (go_simp; with_reducible rfl)
      simp only [Act.put, List.getElem_toArray, List.getElem_cons_zero, List.getElem_cons_succ, List.setIfInBounds_toArray, List.set_cons_zero, List.set_cons_succ]
      refine wpAnyH_take (i := 20) (v := ?_) rfl (by kernel_rfl) (by kernel_rfl) (by kernel_rfl) (fun _ _ _ h => h) (Or.inl ⟨by rfl, ?_⟩) (by assumption) ?_
      rotate_left
      · intro w' hSw; first | (go_simp; done) | (go_simp; with_reducible rfl)
      simp only [Act.put, List.getElem_toArray, List.getElem_cons_zero, List.getElem_cons_succ, List.setIfInBounds_toArray, List.set_cons_zero, List.set_cons_succ]
      refine wpAnyH_take (i := 21) (v := ?_) rfl (by kernel_rfl) (by kernel_rfl) (by kernel_rfl) (fun _ _ _ h => h) (Or.inl ⟨by rfl, ?_⟩) (by assumption) ?_
      rotate_left
      · intro w' hSw; first | (go_simp; done) | (go_simp; with_reducible rfl)
      simp only [Act.put, List.getElem_toArray, List.getElem_cons_zero, List.getElem_cons_succ, List.setIfInBounds_toArray, List.set_cons_zero, List.set_cons_succ]
      refine wpAnyH_ready (rs := [22]) (by kernel_rfl) (by simp) ?_
      refine AllReadyH.cons rfl (fun K hK => ?_) ?_
      · go_simp
        refine hK.out _ _ q4 (fun hHeld => ?_)
        clear hK K
        refine wpAnyH_done (by kernel_rfl) ?_ _
        go_wp2_with fail
        exact bodyPost_ret (results_none rfl _ _ _) rfl ⟨rfl, _, _, H3.out, fun _ => HAP.out, pput_below H2.out.2.1 (Nat.le_refl _) _ _ _, pput_only H2.out.2.2 _ _ _⟩
      exact AllReadyH.nil
    exact AllReadyH.nil
  exact AllReadyH.nil
set_option maxHeartbeats 6400000 in
theorem pback_move (s : S) (x y z : Value) (b base : Nat) (w : World) (h : Pn w b base s x y z) (hok : Ok s) (hr : s.cur.row = s.top) :
    Calls Tryz.prog 56 #[.pointer (some ⟨b, 0, none⟩)] w fun e w' => e = .returned (.tuple #[]) ∧ ∃ x' y', Pn w' b base (putG (noWrap s) (moveG (seenG s) s.top s.bottom (-1) s.cur.a)) x' y' z ∧ (Apart x y → Apart x' y') ∧ Below b w w' ∧ Only b w w' := by
  have F := Lib.hid hok.facts
  have H1 := Lib.hid h.wrap
  have HB1 : Hid (Below b w (w.setCell ⟨b, 9, none⟩ (.bool false))) := Lib.hid ((Below.refl b w).setCell (show b ≤ b by omega) _)
  have HO1 : Hid (Only b w (w.setCell ⟨b, 9, none⟩ (.bool false))) := Lib.hid ((Only.refl b w).set 9 _)
  have c0 : w.cell? ⟨b, 9, none⟩ = some (.bool s.cur.wrap) := h.box.cell 9
  have f0 : w.frozen? ⟨b, 9, none⟩ = false := h.box.free 9
  have HSC := Lib.hid (seat_arr (noWrap s) x y z)
  have HRM : Hid (∀ W, Own W base (noWrap s) x y z → Rm W (seenX (noWrap s) x y) (seenG s).cells) := Lib.hid fun W k => seenX_rm k.in_
  obtain ⟨X, hX⟩ : ∃ X, seenX (noWrap s) x y = X := ⟨_, rfl⟩
  rw [hX] at HSC HRM
  clear hX
  obtain ⟨AX, nX, cX, rfl⟩ : ∃ A n c, X = .slice A n c := (by obtain ⟨A, c, e, _⟩ := (HRM.out _ (H1.out.kept (Below.refl _ _).drew).own).2; exact ⟨A, _, c, e⟩)
  have HPS := Lib.hid (penSeen (noWrap s) x y z b)
  have HPN : Hid (∀ W v, Pn W b base (noWrap s) x y z → OwnCs W base v (moveG (seenG s) s.top s.bottom (-1) s.cur.a).cells → Pn (pput W b (seatO (noWrap s)) (moveG (seenG s) s.top s.bottom (-1) s.cur.a).rows (moveG (seenG s) s.top s.bottom (-1) s.cur.a).cols v) b base (putG (noWrap s) (moveG (seenG s) s.top s.bottom (-1) s.cur.a)) (putX (noWrap s) x v) (putY (noWrap s) y v) z) := Lib.hid fun W v k hv => k.seen (G := moveG (seenG s) s.top s.bottom (-1) s.cur.a) hv
  have HUP : Hid (∀ W, Rm W (.slice AX nX cX) (seenG s).cells → _) := Lib.hid fun W k => downG_any (seenG s) (.slice AX nX cX) s.top s.bottom s.cur.a W F.out.g k F.out.a F.out.top0 F.out.tb (by have := F.out.gr; have := F.out.bot; omega)
  obtain ⟨p, hp⟩ : ∃ p, seatO (noWrap s) = p := ⟨_, rfl⟩
  rw [hp] at HSC HPS HPN
  have HP3 : Hid (p ≤ 3) := Lib.hid (by rw [← hp]; unfold seatO; split <;> omega)
  have HQ : Hid (∀ W, SBox W b (noWrap s) x y z → W.cell? ⟨b, 37, none⟩ = some (.int .i64 s.top) ∧ W.cell? ⟨b, 38, none⟩ = some (.int .i64 s.bottom) ∧ W.cell? ⟨b, 10, none⟩ = some (.int .i64 s.cur.a.fg) ∧ W.cell? ⟨b, 11, none⟩ = some (.int .i64 s.cur.a.bg) ∧ W.cell? ⟨b, 12, none⟩ = some (.int .i64 s.cur.a.flags)) := Lib.hid fun W k =>
    ⟨k.cell 37, k.cell 38, k.cell 10, k.cell 11, k.cell 12⟩
  have HG : Hid (∀ W, SBox W b (noWrap s) x y z → W.cell? ⟨b, p, none⟩ = some (.int .i64 (seenG s).rows) ∧ W.cell? ⟨b, p + 1, none⟩ = some (.int .i64 (seenG s).cols) ∧ W.cell? ⟨b, p + 2, none⟩ = some (.slice AX nX cX)) := Lib.hid fun W k =>
    ⟨by rw [k.cell]; exact HSC.out.1, by rw [k.cell]; exact HSC.out.2.1, by rw [k.cell]; exact HSC.out.2.2⟩
  have HQ4 : Hid (∀ W R C v, SBox W b (noWrap s) x y z → (pput W b p R C v).cell? ⟨b, 37, none⟩ = some (.int .i64 s.top) ∧ (pput W b p R C v).cell? ⟨b, 38, none⟩ = some (.int .i64 s.bottom) ∧ (pput W b p R C v).cell? ⟨b, 10, none⟩ = some (.int .i64 s.cur.a.fg) ∧ (pput W b p R C v).cell? ⟨b, 11, none⟩ = some (.int .i64 s.cur.a.bg) ∧ (pput W b p R C v).cell? ⟨b, 12, none⟩ = some (.int .i64 s.cur.a.flags)) := Lib.hid fun W R C v k => by
    have h3 := HP3.out
    rw [pput_cell h3 (by omega), pput_cell h3 (by omega), pput_cell h3 (by omega), pput_cell h3 (by omega), pput_cell h3 (by omega)]
    exact HQ.out W k
  clear hp h hok HSC
  go_enter Tryz.func56, Tryz.ntmps56
  go_upto_region 1 with (fail)
  change Code.wp _ _ _ _ (w.setCell ⟨b, 9, none⟩ (.bool false))
  clear c0 f0
  generalize w.setCell ⟨b, 9, none⟩ (.bool false) = w1 at H1 HB1 HO1 ⊢
  have q7 : w1.cell? ⟨b, 7, none⟩ = some (.int .i64 s.cur.row) := H1.out.box.cell 7
  have q2 := HQ.out w1 H1.out.box
  have qe : w1.cell? ⟨b, 37, none⟩ = some (.int .i64 s.top) := q2.1
  go_wp2_with fail
  refine (HPS.out w1 H1.out.box).mono ?_; rintro e w1' ⟨rfl, rfl⟩
  go_upto_region 2 with (fail)
  go_quiet (fail)
  clear q7 qe q2
  have HLO := Lib.hid H1.out.lo
  go_upto_region 3 with (fail)
  have HQQ := Lib.hid (bel_drewN w1 nq)
  generalize w1.drewN nq = wq at HQQ ⊢
  have H1 := Lib.hid (H1.out.kept HQQ.out)
  have HB1 := Lib.hid (HB1.out.trans (HQQ.out.mono HLO.out))
  have HO1 := Lib.hid (Only.bel HO1.out HQQ.out)
  have q2 := HQ.out wq H1.out.box
  obtain ⟨g0, g1, g2⟩ := HG.out wq H1.out.box
  have HT : Hid (∀ w2, Below wq.drew.heap.size wq.drew w2 → Pn w2 b base (noWrap s) x y z ∧ Below b w w2 ∧ Only b w w2) := Lib.hid fun w2 hb => by
    have hb' : Below wq.heap.size wq w2 := (Below.refl _ _).drew.trans hb
    exact ⟨H1.out.kept hb', HB1.out.trans (hb'.mono (by have := H1.out.lt; have := H1.out.up; omega)), Only.bel HO1.out hb'⟩
  refine wp_region_held_drew (S := fun w' => w'.cell? ⟨b, 37, none⟩ = some (.int .i64 s.top) ∧ w'.cell? ⟨b, 38, none⟩ = some (.int .i64 s.bottom) ∧ w'.cell? ⟨b, 10, none⟩ = some (.int .i64 s.cur.a.fg) ∧ w'.cell? ⟨b, 11, none⟩ = some (.int .i64 s.cur.a.bg) ∧ w'.cell? ⟨b, 12, none⟩ = some (.int .i64 s.cur.a.flags)) (by kernel_rfl) q2 (fun hHeld => ?_)
  refine wpAnyH_take (i := 0) (v := ?_) rfl (by kernel_rfl) (by kernel_rfl) (by kernel_rfl) (fun _ _ _ h => h) (Or.inl ⟨by rfl, ?_⟩) (by assumption) ?_
  rotate_left
  · intro w' hSw; first | (go_simp; done) | (go_simp; with_reducible rfl)
  simp only [Act.put, List.getElem_toArray, List.getElem_cons_zero, List.setIfInBounds_toArray, List.set_cons_zero, List.set_cons_succ]
  refine wpAnyH_take (i := 1) (v := ?_) rfl (by kernel_rfl) (by kernel_rfl) (by kernel_rfl) (fun _ _ _ h => h) (Or.inl ⟨by rfl, ?_⟩) (by assumption) ?_
  rotate_left
  · intro w' hSw; first | (go_simp; done) | (go_simp; with_reducible rfl)
  simp only [Act.put, List.getElem_toArray, List.getElem_cons_zero, List.getElem_cons_succ, List.setIfInBounds_toArray, List.set_cons_zero, List.set_cons_succ]
  refine wpAnyH_take (i := 2) (v := ?_) rfl (by kernel_rfl) (by kernel_rfl) (by kernel_rfl) (fun _ _ _ h => h) (Or.inl ⟨by rfl, ?_⟩) (by assumption) ?_
  rotate_left
  · intro w' hSw; first | (go_simp; done) | (go_simp; with_reducible rfl)
  simp only [Act.put, List.getElem_toArray, List.getElem_cons_zero, List.getElem_cons_succ, List.setIfInBounds_toArray, List.set_cons_zero, List.set_cons_succ]
  refine wpAnyH_take (i := 4) (v := ?_) rfl (by kernel_rfl) (by kernel_rfl) (by kernel_rfl) (fun _ _ _ h => h) (Or.inl ⟨by rfl, ?_⟩) (by assumption) ?_
  rotate_left
  · intro w' hSw; first | (go_simp; done) | (go_simp; with_reducible rfl)
  simp only [Act.put, List.getElem_toArray, List.getElem_cons_zero, List.getElem_cons_succ, List.setIfInBounds_toArray, List.set_cons_zero, List.set_cons_succ]
  refine wpAnyH_take (i := 5) (v := ?_) rfl (by kernel_rfl) (by kernel_rfl) (by kernel_rfl) (fun _ _ _ h => h) (Or.inl ⟨by rfl, ?_⟩) (by assumption) ?_
  rotate_left
  · intro w' hSw; first | (go_simp; done) | (go_simp; with_reducible rfl)
  simp only [Act.put, List.getElem_toArray, List.getElem_cons_zero, List.getElem_cons_succ, List.setIfInBounds_toArray, List.set_cons_zero, List.set_cons_succ]
  refine wpAnyH_take (i := 6) (v := ?_) rfl (by kernel_rfl) (by kernel_rfl) (by kernel_rfl) (fun _ _ _ h => h) (Or.inl ⟨by rfl, ?_⟩) (by assumption) ?_
  rotate_left
  · intro w' hSw; first | (go_simp; done) | (go_simp; with_reducible rfl)
  simp only [Act.put, List.getElem_toArray, List.getElem_cons_zero, List.getElem_cons_succ, List.setIfInBounds_toArray, List.set_cons_zero, List.set_cons_succ]
  refine wpAnyH_take (i := 7) (v := ?_) rfl (by kernel_rfl) (by kernel_rfl) (by kernel_rfl) (fun _ _ _ h => h) (Or.inl ⟨by rfl, ?_⟩) (by assumption) ?_
  rotate_left
  · intro w' hSw; first | (go_simp; done) | (go_simp; with_reducible rfl)
  simp only [Act.put, List.getElem_toArray, List.getElem_cons_zero, List.getElem_cons_succ, List.setIfInBounds_toArray, List.set_cons_zero, List.set_cons_succ]
  refine wpAnyH_take (i := 8) (v := ?_) rfl (by kernel_rfl) (by kernel_rfl) (by kernel_rfl) (fun _ _ _ h => h) (Or.inl ⟨by rfl, ?_⟩) (by assumption) ?_
  rotate_left
  · intro w' hSw; first | (go_simp; done) | (go_simp; with_reducible rfl)
  simp only [Act.put, List.getElem_toArray, List.getElem_cons_zero, List.getElem_cons_succ, List.setIfInBounds_toArray, List.set_cons_zero, List.set_cons_succ]
  refine wpAnyH_take (i := 9) (v := ?_) rfl (by kernel_rfl) (by kernel_rfl) (by kernel_rfl) (fun _ _ _ h => h) (Or.inl ⟨by rfl, ?_⟩) (by assumption) ?_
  rotate_left
  · intro w' hSw; first | (go_simp; done) | (go_simp; with_reducible rfl)
  simp only [Act.put, List.getElem_toArray, List.getElem_cons_zero, List.getElem_cons_succ, List.setIfInBounds_toArray, List.set_cons_zero, List.set_cons_succ]
  refine wpAnyH_take (i := 10) (v := ?_) rfl (by kernel_rfl) (by kernel_rfl) (by kernel_rfl) (fun _ _ _ h => h) (Or.inl ⟨by rfl, ?_⟩) (by assumption) ?_
  rotate_left
  · intro w' hSw; first | (go_simp; done) | (go_simp; with_reducible rfl)
  simp only [Act.put, List.getElem_toArray, List.getElem_cons_zero, List.getElem_cons_succ, List.setIfInBounds_toArray, List.set_cons_zero, List.set_cons_succ]
  refine wpAnyH_take (i := 11) (v := ?_) rfl (by kernel_rfl) (by kernel_rfl) (by kernel_rfl) (fun _ _ _ h => h) (Or.inl ⟨by rfl, ?_⟩) (by assumption) ?_
  rotate_left
  · intro w' hSw; first | (go_simp; done) | (go_simp; with_reducible rfl)
  simp only [Act.put, List.getElem_toArray, List.getElem_cons_zero, List.getElem_cons_succ, List.setIfInBounds_toArray, List.set_cons_zero, List.set_cons_succ]
  refine wpAnyH_take (i := 12) (v := ?_) rfl (by kernel_rfl) (by kernel_rfl) (by kernel_rfl) (fun _ _ _ h => h) (Or.inl ⟨by rfl, ?_⟩) (by assumption) ?_
  rotate_left
  · intro w' hSw; first | (go_simp; done) | (go_simp; with_reducible rfl)
  simp only [Act.put, List.getElem_toArray, List.getElem_cons_zero, List.getElem_cons_succ, List.setIfInBounds_toArray, List.set_cons_zero, List.set_cons_succ]
  refine wpAnyH_take (i := 13) (v := ?_) rfl (by kernel_rfl) (by kernel_rfl) (by kernel_rfl) (fun _ _ _ h => h) (Or.inl ⟨by rfl, ?_⟩) (by assumption) ?_
  rotate_left
  · intro w' hSw; first | (go_simp; done) | (go_simp; with_reducible rfl)
  simp only [Act.put, List.getElem_toArray, List.getElem_cons_zero, List.getElem_cons_succ, List.setIfInBounds_toArray, List.set_cons_zero, List.set_cons_succ]
  refine wpAnyH_take (i := 14) (v := ?_) rfl (by kernel_rfl) (by kernel_rfl) (by kernel_rfl) (fun _ _ _ h => h) (Or.inl ⟨by rfl, ?_⟩) (by assumption) ?_
  rotate_left
  · intro w' hSw; first | (go_simp; done) | (go_simp; with_reducible rfl)
  simp only [Act.put, List.getElem_toArray, List.getElem_cons_zero, List.getElem_cons_succ, List.setIfInBounds_toArray, List.set_cons_zero, List.set_cons_succ]
  refine wpAnyH_take (i := 15) (v := ?_) rfl (by kernel_rfl) (by kernel_rfl) (by kernel_rfl) (fun _ _ _ h => h) (Or.inl ⟨by rfl, ?_⟩) (by assumption) ?_
  rotate_left
  · intro w' hSw; first | (go_simp; done) | (go_simp; with_reducible rfl)
  simp only [Act.put, List.getElem_toArray, List.getElem_cons_zero, List.getElem_cons_succ, List.setIfInBounds_toArray, List.set_cons_zero, List.set_cons_succ]
  refine wpAnyH_take (i := 16) (v := ?_) rfl (by kernel_rfl) (by kernel_rfl) (by kernel_rfl) (fun _ _ _ h => h) (Or.inl ⟨by rfl, ?_⟩) (by assumption) ?_
  rotate_left
  · intro w' hSw; first | (go_simp; done) | (go_simp; with_reducible rfl)
  simp only [Act.put, List.getElem_toArray, List.getElem_cons_zero, List.getElem_cons_succ, List.setIfInBounds_toArray, List.set_cons_zero, List.set_cons_succ]
  refine wpAnyH_ready (rs := [3]) (by kernel_rfl) (by simp) ?_
  refine AllReadyH.cons rfl (fun K hK => ?_) ?_
  · go_simp
    refine hK.out _ _ q2 (fun hHeld => ?_)
    clear hK K
    refine wpAnyH_ready (rs := [17]) (by kernel_rfl) (by simp) ?_
    refine AllReadyH.cons rfl (fun K hK => ?_) ?_
    · go_simp
      go_at_call 90
      refine (HUP.out wq.drew (HRM.out _ (H1.out.kept (Below.refl _ _).drew).own)).mono ?_; rintro e w2 ⟨v, rfl, ho, hb⟩
      obtain ⟨A', n', c', rfl⟩ : ∃ A n c, v = .slice A n c := (by obtain ⟨A, c, e, _⟩ := ho.rm.2; exact ⟨A, _, c, e⟩)
      have H2 := Lib.hid (HT.out w2 hb)
      have H3 := Lib.hid (HPN.out w2 _ H2.out.1 (ho.low H1.out.up))
      have HAP : Hid (Apart (putX (noWrap s) x (.slice A' n' c')) (putY (noWrap s) y (.slice A' n' c'))) := Lib.hid (put_apart (fun k e => (H1.out.own.m.lt k e).2) (fun k e => (H1.out.own.o.lt k e).2) (fun k e => (ho.lt k e).1))
      have q3 := HQ.out w2 H2.out.1.box
      obtain ⟨r0, r1, r2⟩ := HG.out w2 H2.out.1.box
      have q4 := HQ4.out w2 (moveG (seenG s) s.top s.bottom (-1) s.cur.a).rows (moveG (seenG s) s.top s.bottom (-1) s.cur.a).cols (.slice A' n' c') H2.out.1.box
      have f2 : ∀ j, w2.frozen? ⟨b, j, none⟩ = false := H2.out.1.box.free
      clear ho hb
      refine hK.out _ _ q3 (fun hHeld => ?_)
      clear hK K
      refine wpAnyH_take (i := 18) (v := ?_) rfl (by kernel_rfl) (by kernel_rfl) (by kernel_rfl) (fun _ _ _ h => h) (Or.inl ⟨by rfl, ?_⟩) (by assumption) ?_
      rotate_left
      · intro w' hSw; first | (go_simp; done) | (go_simp; with_reducible rfl)
      simp only [Act.put, List.getElem_toArray, List.getElem_cons_zero, List.getElem_cons_succ, List.setIfInBounds_toArray, List.set_cons_zero, List.set_cons_succ]
      refine wpAnyH_take (i := 19) (v := ?_) rfl (by kernel_rfl) (by kernel_rfl) (by kernel_rfl) (fun _ _ _ h => h) (Or.inl ⟨by rfl, ?_⟩) (by assumption) ?_
      rotate_left
      · intro w' hSw; first | (go_simp; done) | (go_simp; with_reducible rfl)
      simp only [Act.put, List.getElem_toArray, List.getElem_cons_zero, List.getElem_cons_succ, List.setIfInBounds_toArray, List.set_cons_zero, List.set_cons_succ]
      refine wpAnyH_take (i := 20) (v := ?_) rfl (by kernel_rfl) (by kernel_rfl) (by kernel_rfl) (fun _ _ _ h => h) (Or.inl ⟨by rfl, ?_⟩) (by assumption) ?_
      rotate_left
      · intro w' hSw; first | (go_simp; done) | (go_simp; with_reducible rfl)
      simp only [Act.put, List.getElem_toArray, List.getElem_cons_zero, List.getElem_cons_succ, List.setIfInBounds_toArray, List.set_cons_zero, List.set_cons_succ]
      refine wpAnyH_take (i := 21) (v := ?_) rfl (by kernel_rfl) (by kernel_rfl) (by kernel_rfl) (fun _ _ _ h => h) (Or.inl ⟨by rfl, ?_⟩) (by assumption) ?_
      rotate_left
      · intro w' hSw; first | (go_simp; done) | (go_simp; with_reducible rfl)
      simp only [Act.put, List.getElem_toArray, List.getElem_cons_zero, List.getElem_cons_succ, List.setIfInBounds_toArray, List.set_cons_zero, List.set_cons_succ]
      refine wpAnyH_ready (rs := [22]) (by kernel_rfl) (by simp) ?_
      refine AllReadyH.cons rfl (fun K hK => ?_) ?_
      · go_simp
        refine hK.out _ _ q4 (fun hHeld => ?_)
        clear hK K
        refine wpAnyH_done (by kernel_rfl) ?_ _
        go_wp2_with fail
        exact bodyPost_ret (results_none rfl _ _ _) rfl ⟨rfl, _, _, H3.out, fun _ => HAP.out, pput_below H2.out.2.1 (Nat.le_refl _) _ _ _, pput_only H2.out.2.2 _ _ _⟩
      exact AllReadyH.nil
    exact AllReadyH.nil
  exact AllReadyH.nil
set_option maxHeartbeats 6400000 in
theorem pdown_step (s : S) (x y z : Value) (b base : Nat) (w : World) (h : Pn w b base s x y z) (hok : Ok s) (hr : ¬ s.cur.row = s.bottom) :
    Calls Tryz.prog 55 #[.pointer (some ⟨b, 0, none⟩)] w fun e w' => e = .returned (.tuple #[]) ∧ ∃ x' y', Pn w' b base (atRow (noWrap s) (min (s.cur.row + 1) (s.main.rows - 1))) x' y' z ∧ (Apart x y → Apart x' y') ∧ Below b w w' ∧ Only b w w' := by
  have F := Lib.hid hok.facts
  have H1 := Lib.hid h.wrap
  have HB1 : Hid (Below b w (w.setCell ⟨b, 9, none⟩ (.bool false))) := Lib.hid ((Below.refl b w).setCell (show b ≤ b by omega) _)
  have HO1 : Hid (Only b w (w.setCell ⟨b, 9, none⟩ (.bool false))) := Lib.hid ((Only.refl b w).set 9 _)
  have c0 : w.cell? ⟨b, 9, none⟩ = some (.bool s.cur.wrap) := h.box.cell 9
  have f0 : w.frozen? ⟨b, 9, none⟩ = false := h.box.free 9
  have HSC := Lib.hid (seat_arr (noWrap s) x y z)
  have HPS := Lib.hid (penSeen (noWrap s) x y z b)
  obtain ⟨p, hp⟩ : ∃ p, seatO (noWrap s) = p := ⟨_, rfl⟩
  rw [hp] at HSC HPS
  have hw1 : IntKind.i64.wrap (s.cur.row + 1) = s.cur.row + 1 := by have := F.out.row0; have := F.out.row1; have := F.out.r40; rw [IntKind.wrap_i64]; omega
  have hw2 : IntKind.i64.wrap (s.main.rows - 1) = s.main.rows - 1 := by have := F.out.r1; have := F.out.r40; rw [IntKind.wrap_i64]; omega
  have HP0 : Hid (∀ W, SBox W b (noWrap s) x y z → W.cell? ⟨b, p, none⟩ = some (.int .i64 s.main.rows)) := Lib.hid fun W k => by rw [k.cell, ← F.out.gr]; exact HSC.out.1
  have HV : Hid (∀ W, Pn W b base (noWrap s) x y z → Pn (W.setCell ⟨b, 7, none⟩ (.int .i64 (min (s.cur.row + 1) (s.main.rows - 1)))) b base (atRow (noWrap s) (min (s.cur.row + 1) (s.main.rows - 1))) x y z) := Lib.hid fun W k => k.row _
  clear hp h hok HSC
  go_enter Tryz.func55, Tryz.ntmps55
  go_upto_region 1 with (fail)
  change Code.wp _ _ _ _ (w.setCell ⟨b, 9, none⟩ (.bool false))
  clear c0 f0
  generalize w.setCell ⟨b, 9, none⟩ (.bool false) = w1 at H1 HB1 HO1 ⊢
  have q7 : w1.cell? ⟨b, 7, none⟩ = some (.int .i64 s.cur.row) := H1.out.box.cell 7
  have qe : w1.cell? ⟨b, 38, none⟩ = some (.int .i64 s.bottom) := H1.out.box.cell 38
  have q0 := HP0.out w1 H1.out.box
  have f1 : ∀ j, w1.frozen? ⟨b, j, none⟩ = false := H1.out.box.free
  go_wp2_with fail
  refine (HPS.out w1 H1.out.box).mono ?_; rintro e w1' ⟨rfl, rfl⟩
  go_upto_region 2 with (fail)
  go_quiet (fail)
  have HE : Hid (∀ W, Below w1.heap.size w1 W → Pn (W.setCell ⟨b, 7, none⟩ (.int .i64 (min (s.cur.row + 1) (s.main.rows - 1)))) b base (atRow (noWrap s) (min (s.cur.row + 1) (s.main.rows - 1))) x y z ∧ Below b w (W.setCell ⟨b, 7, none⟩ (.int .i64 (min (s.cur.row + 1) (s.main.rows - 1)))) ∧ Only b w (W.setCell ⟨b, 7, none⟩ (.int .i64 (min (s.cur.row + 1) (s.main.rows - 1))))) := Lib.hid fun W hb =>
    ⟨HV.out W (H1.out.kept hb), (HB1.out.trans (hb.mono (by have := H1.out.lt; have := H1.out.up; omega))).setCell (show b ≤ b by omega) _, (Only.bel HO1.out hb).set 7 _⟩
  go_upto_region 4 with (fail)
  go_region
  all_goals
    go_wp2_with fail
    go_end0
    exact ⟨rfl, _, _, (HE.out _ (by first | exact bel_drewN _ _ | exact (bel_drewN _ _).drew)).1, fun h => h, (HE.out _ (by first | exact bel_drewN _ _ | exact (bel_drewN _ _).drew)).2⟩
set_option maxHeartbeats 6400000 in
theorem pback_step (s : S) (x y z : Value) (b base : Nat) (w : World) (h : Pn w b base s x y z) (hok : Ok s) (hr : ¬ s.cur.row = s.top) :
    Calls Tryz.prog 56 #[.pointer (some ⟨b, 0, none⟩)] w fun e w' => e = .returned (.tuple #[]) ∧ ∃ x' y', Pn w' b base (atRow (noWrap s) (max (s.cur.row - 1) 0)) x' y' z ∧ (Apart x y → Apart x' y') ∧ Below b w w' ∧ Only b w w' := by
  have F := Lib.hid hok.facts
  have H1 := Lib.hid h.wrap
  have HB1 : Hid (Below b w (w.setCell ⟨b, 9, none⟩ (.bool false))) := Lib.hid ((Below.refl b w).setCell (show b ≤ b by omega) _)
  have HO1 : Hid (Only b w (w.setCell ⟨b, 9, none⟩ (.bool false))) := Lib.hid ((Only.refl b w).set 9 _)
  have c0 : w.cell? ⟨b, 9, none⟩ = some (.bool s.cur.wrap) := h.box.cell 9
  have f0 : w.frozen? ⟨b, 9, none⟩ = false := h.box.free 9
  have HSC := Lib.hid (seat_arr (noWrap s) x y z)
  have HPS := Lib.hid (penSeen (noWrap s) x y z b)
  obtain ⟨p, hp⟩ : ∃ p, seatO (noWrap s) = p := ⟨_, rfl⟩
  rw [hp] at HSC HPS
  have hw1 : IntKind.i64.wrap (s.cur.row - 1) = s.cur.row - 1 := by have := F.out.row0; have := F.out.row1; have := F.out.r40; rw [IntKind.wrap_i64]; omega
  have hw2 : IntKind.i64.wrap (s.main.rows - 1) = s.main.rows - 1 := by have := F.out.r1; have := F.out.r40; rw [IntKind.wrap_i64]; omega
  have HP0 : Hid (∀ W, SBox W b (noWrap s) x y z → W.cell? ⟨b, p, none⟩ = some (.int .i64 s.main.rows)) := Lib.hid fun W k => by rw [k.cell, ← F.out.gr]; exact HSC.out.1
  have HV : Hid (∀ W, Pn W b base (noWrap s) x y z → Pn (W.setCell ⟨b, 7, none⟩ (.int .i64 (max (s.cur.row - 1) 0))) b base (atRow (noWrap s) (max (s.cur.row - 1) 0)) x y z) := Lib.hid fun W k => k.row _
  clear hp h hok HSC
  go_enter Tryz.func56, Tryz.ntmps56
  go_upto_region 1 with (fail)
  change Code.wp _ _ _ _ (w.setCell ⟨b, 9, none⟩ (.bool false))
  clear c0 f0
  generalize w.setCell ⟨b, 9, none⟩ (.bool false) = w1 at H1 HB1 HO1 ⊢
  have q7 : w1.cell? ⟨b, 7, none⟩ = some (.int .i64 s.cur.row) := H1.out.box.cell 7
  have qe : w1.cell? ⟨b, 37, none⟩ = some (.int .i64 s.top) := H1.out.box.cell 37
  have q0 := HP0.out w1 H1.out.box
  have f1 : ∀ j, w1.frozen? ⟨b, j, none⟩ = false := H1.out.box.free
  go_wp2_with fail
  refine (HPS.out w1 H1.out.box).mono ?_; rintro e w1' ⟨rfl, rfl⟩
  go_upto_region 2 with (fail)
  go_quiet (fail)
  have HE : Hid (∀ W, Below w1.heap.size w1 W → Pn (W.setCell ⟨b, 7, none⟩ (.int .i64 (max (s.cur.row - 1) 0))) b base (atRow (noWrap s) (max (s.cur.row - 1) 0)) x y z ∧ Below b w (W.setCell ⟨b, 7, none⟩ (.int .i64 (max (s.cur.row - 1) 0))) ∧ Only b w (W.setCell ⟨b, 7, none⟩ (.int .i64 (max (s.cur.row - 1) 0)))) := Lib.hid fun W hb =>
    ⟨HV.out W (H1.out.kept hb), (HB1.out.trans (hb.mono (by have := H1.out.lt; have := H1.out.up; omega))).setCell (show b ≤ b by omega) _, (Only.bel HO1.out hb).set 7 _⟩
  go_upto_region 4 with (fail)
  go_wp2_with fail
  go_end0
  exact ⟨rfl, _, _, (HE.out _ (by first | exact bel_drewN _ _ | exact (bel_drewN _ _).drew)).1, fun h => h, (HE.out _ (by first | exact bel_drewN _ _ | exact (bel_drewN _ _).drew)).2⟩
end Scr
end Go.Proofs.YtgjpojaegjdjcaaGreatDoor
end
