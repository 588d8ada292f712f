/- Joined texts: EdDev, EdPush, EdErase, EdDeed, EdDo. -/
import Derived.Test.YtceaoadlhdgnmaaGreatDoorM108
import Derived.Deep.CutRange
import Derived.Deep.DeepCutAuto
import Derived.Deep.RegionLaw
import Derived.Deep.RegionHeld3
import Derived.BigRegion
import Derived.BigQuiet
namespace Go.Proofs.YtceaoadlhdgnmaaGreatDoor
set_option maxRecDepth 100000
section
open Go.RowKit
namespace Scr
open Go.Proofs.YtceaoadlhdgnmaaGreatDoor.Row Wid
theorem edSeen (s : S) (x y z : Value) (b : Nat) (w : World) (h : SBox w b s x y z) : Calls Tryz.prog 172 #[.pointer (some ⟨b, 0, none⟩)] w fun e w' => e = .returned (.pointer (some ⟨b, seatO s, none⟩)) ∧ w = w' := by
  have c0 : ∀ j, w.cell? ⟨b, j, none⟩ = (sarr s x y z)[j]? := h.cell
  clear h
  cases hs : s.swapped
  · have HO : Hid (seatO s = 0) := Lib.hid (by unfold seatO; rw [hs]; rfl)
    rw [HO.out]
    go_enter Tryz.func172, Tryz.ntmps172
    go_wp2_with fail
    go_ret
    exact ⟨rfl, rfl⟩
  · have HO : Hid (seatO s = 3) := Lib.hid (by unfold seatO; rw [hs]; rfl)
    rw [HO.out]
    go_enter Tryz.func172, Tryz.ntmps172
    go_wp2_with fail
    go_ret
    exact ⟨rfl, rfl⟩
theorem edSeen_bel (s : S) (x y z : Value) (b p : Nat) (hp : seatO s = p) (w : World) (h : SBox w b s x y z) : Calls Tryz.prog 172 #[.pointer (some ⟨b, 0, none⟩)] w fun e w' => e = .returned (.pointer (some ⟨b, p, none⟩)) ∧ Below w.heap.size w w' :=
  (edSeen s x y z b w h).mono (by rintro e w' ⟨rfl, rfl⟩; exact ⟨by rw [hp], Below.refl _ _⟩)
set_option maxHeartbeats 3200000 in
theorem edLine_at (s : S) (x y z : Value) (b base g n cap i : Nat) (w : World) (hX : seenX s x y = .slice (some ⟨g, 0, none⟩) n cap) (h : Pn w b base s x y z) (hg : gridB (seenG s) = true) (hi : (i : Int) < (seenG s).rows) :
    Calls Tryz.prog 174 #[.pointer (some ⟨b, 0, none⟩), .int .i64 i] w fun e w' => ∃ c', e = .returned (.slice (some ⟨g, i * (seenG s).cols.toNat * 6, none⟩) (seenG s).cols.toNat c') ∧ Below w.heap.size w w' := by
  have L := Lib.hid (rowF hg hi)
  have hXo : OwnCs w base (.slice (some ⟨g, 0, none⟩) n cap) (seenG s).cells := h.cells hX
  have HS := Lib.hid (seat_arr s x y z)
  have hcap : n ≤ cap := hXo.room
  have hnl : n = (seenG s).cells.length := hXo.n
  rw [hX] at HS
  have HPS := Lib.hid (edSeen s x y z b w h.box)
  obtain ⟨p, hp⟩ : ∃ p, seatO s = p := ⟨_, rfl⟩
  rw [hp] at HS HPS
  have p1 : w.cell? ⟨b, p + 1, none⟩ = some (.int .i64 (seenG s).cols) := by rw [h.box.cell]; exact HS.out.2.1
  have p2 : w.cell? ⟨b, p + 2, none⟩ = some (.slice (some ⟨g, 0, none⟩) n cap) := by rw [h.box.cell]; exact HS.out.2.2
  have hfit := L.out.fit
  have hcI := L.out.cI
  have hc1 := L.out.c1
  have hC40 := L.out.c40
  have h40 := L.out.small
  have hi40 := L.out.i40
  obtain ⟨C, hC⟩ : ∃ C, (seenG s).cols.toNat = C := ⟨_, rfl⟩
  rw [hC] at hfit hcI hc1 hC40 h40 ⊢
  rw [← hcI] at p1
  rw [← hnl] at hfit
  obtain ⟨k, hk⟩ : ∃ k, i * C = k := ⟨_, rfl⟩
  have hk2 : (i + 1) * C = k + C := by rw [Nat.succ_mul, hk]
  rw [hk] at hfit h40 ⊢
  have hw0 : IntKind.i64.wrap ((i : Int) + 1) = ((i + 1 : Nat) : Int) := by rw [IntKind.wrap_i64]; omega
  have hw1 : IntKind.i64.wrap ((i : Int) * (C : Int)) = (k : Int) := by rw [← Int.natCast_mul, hk, IntKind.wrap_i64]; omega
  have hw2 : IntKind.i64.wrap (((i + 1 : Nat) : Int) * (C : Int)) = ((k + C : Nat) : Int) := by rw [← Int.natCast_mul, hk2, IntKind.wrap_i64]; omega
  have hu : Tryz.prog.underlying 27 = some (.slice (Tryz.prog.elem 27)) := by kernel_rfl
  have hsl : ∀ w' : World, (Instr.slice 27 (.slice (some ⟨g, 0, none⟩) n cap) (some (.int .i64 (k : Int))) (some (.int .i64 ((k + C : Nat) : Int))) none).run Tryz.prog w' = .ok (.slice (some ⟨g, k * 6, none⟩) C (cap - k)) w' := fun w' => by
    rw [run_slice_lh w' 27 (some ⟨g, 0, none⟩) n cap hu .i64 .i64 (k : Int) ((k + C : Nat) : Int) (by omega) (by omega) (by omega)]
    have hs : (sizeOf (Tryz.prog.elem 27)).run Tryz.prog w' = .ok 6 w' := by kernel_rfl
    rw [hs]
    have hne : ¬ cap = k := by omega
    simp [Result.andThen, sliced, hne, Addr.add]
    exact ⟨fun h => h.symm, by omega⟩
  clear hk hC hp hfit hc1 h40 hC40 hcI hcap hX h hg hi hXo hnl hk2 hi40
  obtain ⟨hi, hhi⟩ : ∃ hi : Int, ((k + C : Nat) : Int) = hi := ⟨_, rfl⟩
  rw [hhi] at hw2 hsl
  obtain ⟨lo, hlo⟩ : ∃ lo : Int, (k : Int) = lo := ⟨_, rfl⟩
  rw [hlo] at hw1 hsl
  obtain ⟨i1, hi1⟩ : ∃ q : Int, ((i + 1 : Nat) : Int) = q := ⟨_, rfl⟩
  rw [hi1] at hw0 hw2
  obtain ⟨ii, hii⟩ : ∃ q : Int, (i : Int) = q := ⟨_, rfl⟩
  rw [hii] at hw0 hw1 ⊢
  clear hhi hlo hu hi1 hii
  go_enter Tryz.func174, Tryz.ntmps174
  go_wp2_with fail
  refine HPS.out.mono ?_; rintro e w1 ⟨rfl, rfl⟩
  go_upto_region 2 with (fail)
  go_quiet (fail)
  go_wp2_with fail
  go_ret
  exact ⟨cap - k, rfl, (by first | exact bel_drewN _ _ | exact (bel_drewN _ _).trans (bel_drewN _ _) | exact (bel_drewN _ _).drew | exact ⟨rfl, rfl, rfl, Nat.le_refl _, fun _ _ => rfl⟩)⟩
theorem Pn.rowE {w : World} {b base g n cap i : Nat} {s : S} {x y z : Value} (h : Pn w b base s x y z) (hX : seenX s x y = .slice (some ⟨g, 0, none⟩) n cap) (F : RowF (seenG s) i) (c : Nat) : Cs w (.slice (some ⟨g, i * (seenG s).cols.toNat * 6, none⟩) (seenG s).cols.toNat c) (rowG (seenG s) i) := by
  have hc := (h.cells hX).cs
  have := Cs.of (w := w) (ad := ⟨g, i * (seenG s).cols.toNat * 6, none⟩) (c := c) (l := rowG (seenG s) i) fun j u hu => by
    have e0 : (⟨g, 0, none⟩ : Addr).add (i * (seenG s).cols.toNat * 6) = ⟨g, i * (seenG s).cols.toNat * 6, none⟩ := by simp [Addr.add]; exact fun q => q.symm
    rw [← e0, Go.Deep.add_add]
    refine hc.flat.2 (i * (seenG s).cols.toNat * 6 + j) u ?_
    have hl : rowG (seenG s) i = ((seenG s).cells.drop (i * (seenG s).cols.toNat)).take (i * (seenG s).cols.toNat + (seenG s).cols.toNat - i * (seenG s).cols.toNat) := by
      unfold rowG Row.rowAt
      rw [Nat.add_sub_cancel_left]
    rw [hl] at hu
    exact flat_part (Nat.le_add_right _ _) F.fit hu
  rwa [F.len] at this
theorem seenX_some {w : World} {b base : Nat} {s : S} {x y z : Value} (h : Pn w b base s x y z) (hg : gridB (seenG s) = true) : ∃ g n cap, seenX s x y = .slice (some ⟨g, 0, none⟩) n cap := by
  have hX : OwnCs w base (seenX s x y) (seenG s).cells := by
    unfold seenX seenG; cases s.swapped
    · exact h.own.m
    · exact h.own.o
  rcases hX.shape with ⟨_, e⟩ | ⟨g, cap, e, _, _⟩
  · have F := rowF hg (i := 0) (by have := (gridB_sides hg).1.1; omega)
    have h1 := F.fit; have h2 := F.c1; rw [e] at h1; simp at h1; omega
  · exact ⟨g, _, cap, e⟩
theorem upN_any (G : Gr) (v : Value) (top bot n : Int) (a : Look) (w : World) (hg : gridB G = true) (hv : Rm w v G.cells) (ha : attrOk a = true) (h0 : 0 ≤ top) (h1 : top ≤ bot) (h2 : bot < G.rows) (h3 : 0 ≤ n) (h4 : n ≤ 9999) :
    Calls Tryz.prog 167 #[gridV G v, .int .i64 top, .int .i64 bot, .int .i64 n, .agg #[.int .i64 a.fg, .int .i64 a.bg, .int .i64 a.flags]] w fun e w' =>
      ∃ u, e = .returned (.tuple #[gridV (moveG G top bot n a) u, .int .i64 0]) ∧ OwnCs w' w.heap.size u (moveG G top bot n a).cells ∧ Below w.heap.size w w' := by
  obtain ⟨R, C, rs, rfl, hr, _⟩ := parts_of hg
  rw [moveG_parts hr]
  obtain ⟨t, rfl⟩ := Int.eq_ofNat_of_zero_le h0
  obtain ⟨k, rfl⟩ := Int.eq_ofNat_of_zero_le (show 0 ≤ bot by omega)
  obtain ⟨m, rfl⟩ := Int.eq_ofNat_of_zero_le h3
  rw [Int.toNat_natCast, Int.toNat_natCast]
  exact up_fits R C rs a t k m v w hr hv hr.held ha (by omega) (by have : (k : Int) < (R : Int) := h2; omega) (by omega)
theorem downN_any (G : Gr) (v : Value) (top bot n : Int) (a : Look) (w : World) (hg : gridB G = true) (hv : Rm w v G.cells) (ha : attrOk a = true) (h0 : 0 ≤ top) (h1 : top ≤ bot) (h2 : bot < G.rows) (h3 : 0 ≤ n) (h4 : n ≤ 9999) :
    Calls Tryz.prog 173 #[gridV G v, .int .i64 top, .int .i64 bot, .int .i64 n, .agg #[.int .i64 a.fg, .int .i64 a.bg, .int .i64 a.flags]] w fun e w' =>
      ∃ u, e = .returned (.tuple #[gridV (moveG G top bot (-n) a) u, .int .i64 0]) ∧ OwnCs w' w.heap.size u (moveG G top bot (-n) a).cells ∧ Below w.heap.size w w' := by
  obtain ⟨R, C, rs, rfl, hr, _⟩ := parts_of hg
  rw [moveG_parts hr]
  obtain ⟨t, rfl⟩ := Int.eq_ofNat_of_zero_le h0
  obtain ⟨k, rfl⟩ := Int.eq_ofNat_of_zero_le (show 0 ≤ bot by omega)
  obtain ⟨m, rfl⟩ := Int.eq_ofNat_of_zero_le h3
  rw [Int.toNat_natCast, Int.toNat_natCast]
  exact down_fits R C rs a t k m v w hr hv hr.held ha (by omega) (by have : (k : Int) < (R : Int) := h2; omega) (by omega)
abbrev lbox0 : Obj := .cells #[.int .i64 0, .int .i64 0, .int .i64 0] 31 (0, 0)
abbrev lbox (a : Look) : Obj := .cells #[.int .i64 a.fg, .int .i64 a.bg, .int .i64 a.flags] 31 (0, 0)
def aall (w : World) (b : Nat) (a : Look) : World := ((w.setCell ⟨b, 0, none⟩ (.int .i64 a.fg)).setCell ⟨b, 1, none⟩ (.int .i64 a.bg)).setCell ⟨b, 2, none⟩ (.int .i64 a.flags)
theorem aall_box {w : World} {b : Nat} (h : w.heap[b]? = some lbox0) (a : Look) : (aall w b a).heap[b]? = some (lbox a) := Blk.set (Blk.set (Blk.set h 0 _) 1 _) 2 _
theorem aall_below {B b : Nat} {u w : World} (h : Below B u w) (hB : B ≤ b) (a : Look) : Below B u (aall w b a) := ((h.setCell hB _).setCell hB _).setCell hB _
theorem lbox0_cells {w : World} {b : Nat} (h : w.heap[b]? = some lbox0) : (∀ j, w.frozen? ⟨b, j, none⟩ = false) ∧ w.cell? ⟨b, 0, none⟩ = some (.int .i64 0) ∧ w.cell? ⟨b, 1, none⟩ = some (.int .i64 0) ∧ w.cell? ⟨b, 2, none⟩ = some (.int .i64 0) :=
  ⟨Blk.free h, Blk.cell h 0, Blk.cell h 1, Blk.cell h 2⟩
theorem pput_other {w : World} {b p q j : Nat} {R C : Int} {v : Value} (h : q ≠ b) : (pput w b p R C v).cell? ⟨q, j, none⟩ = w.cell? ⟨q, j, none⟩ := by
  unfold pput
  rw [World.cell?_setCell_other _ _ _ _ (by intro e; injection e with e; exact h e.symm), World.cell?_setCell_other _ _ _ _ (by intro e; injection e with e; exact h e.symm), World.cell?_setCell_other _ _ _ _ (by intro e; injection e with e; exact h e.symm)]
set_option maxHeartbeats 6400000 in
theorem edRoll_up (s : S) (x y z : Value) (b base : Nat) (top n m : Int) (w : World) (h : Pn w b base s x y z) (hok : Ok s) (h0 : 0 ≤ top) (h1 : top ≤ s.bottom) (hn : n = -m) (hm1 : 1 ≤ m) (hm : m ≤ 9999) :
    Calls Tryz.prog 139 #[.pointer (some ⟨b, 0, none⟩), .int .i64 top, .int .i64 n] w fun e w' => e = .returned (.tuple #[]) ∧ ∃ x' y', Pn w' b base (putG s (moveG (seenG s) top s.bottom m s.cur.a)) x' y' z ∧ Apart x' y' ∧ Below b w w' ∧ Only b w w' := by
  have F := Lib.hid hok.facts
  have H1 := Lib.hid h
  have HLO := Lib.hid h.lo
  have HSC := Lib.hid (seat_arr s x y z)
  have HRM : Hid (∀ W, Own W base s x y z → Rm W (seenX s x y) (seenG s).cells) := Lib.hid fun W k => seenX_rm k.in_
  obtain ⟨X, hX⟩ : ∃ X, seenX s x y = X := ⟨_, rfl⟩
  rw [hX] at HSC HRM
  clear hX
  obtain ⟨AX, nX, cX, rfl⟩ : ∃ A n c, X = .slice A n c := (by obtain ⟨A, c, e, _⟩ := (HRM.out _ h.own).2; exact ⟨A, _, c, e⟩)
  have HPN : Hid (∀ W v, Pn W b base s x y z → OwnCs W base v (moveG (seenG s) top s.bottom m s.cur.a).cells → Pn (pput W b (seatO s) (moveG (seenG s) top s.bottom m s.cur.a).rows (moveG (seenG s) top s.bottom m s.cur.a).cols v) b base (putG s (moveG (seenG s) top s.bottom m s.cur.a)) (putX s x v) (putY s y v) z) := Lib.hid fun W v k hv => k.seen (G := moveG (seenG s) top s.bottom m s.cur.a) hv
  have HUP : Hid (∀ W, Rm W (.slice AX nX cX) (seenG s).cells → _) := Lib.hid fun W k => upN_any (seenG s) (.slice AX nX cX) top s.bottom m s.cur.a W F.out.g k F.out.a h0 h1 (by have := F.out.gr; have := F.out.bot; omega) (by omega) hm
  obtain ⟨p, hp⟩ : ∃ p, seatO s = p := ⟨_, rfl⟩
  have HSE : Hid (∀ W, Pn W b base s x y z → _) := Lib.hid fun W k => edSeen_bel s x y z b p hp W k.box
  rw [hp] at HSC HPN
  have HP3 : Hid (p ≤ 3) := Lib.hid (by rw [← hp]; unfold seatO; split <;> omega)
  have HQ : Hid (∀ W, Below w.heap.size w W → W.cell? ⟨b, 10, none⟩ = some (.int .i64 s.cur.a.fg) ∧ W.cell? ⟨b, 11, none⟩ = some (.int .i64 s.cur.a.bg) ∧ W.cell? ⟨b, 12, none⟩ = some (.int .i64 s.cur.a.flags)) := Lib.hid fun W hb =>
    have k := (h.kept hb).box
    ⟨k.cell 10, k.cell 11, k.cell 12⟩
  have HG : Hid (∀ W, SBox W b s x y z → W.cell? ⟨b, p, none⟩ = some (.int .i64 (seenG s).rows) ∧ W.cell? ⟨b, p + 1, none⟩ = some (.int .i64 (seenG s).cols) ∧ W.cell? ⟨b, p + 2, none⟩ = some (.slice AX nX cX)) := Lib.hid fun W k =>
    ⟨by rw [k.cell]; exact HSC.out.1, by rw [k.cell]; exact HSC.out.2.1, by rw [k.cell]; exact HSC.out.2.2⟩
  have hd : decide (n < 0) = true := decide_eq_true (by omega)
  have hw : IntKind.i64.wrap (-n) = m := by rw [IntKind.wrap_i64]; omega
  clear hp h hok HSC h0 h1 hn hm1 hm
  go_enter Tryz.func139, Tryz.ntmps139
  go_upto_region 0 with (fail)
  go_cut [6, 7] from 8 to 14 (fun s6 s7 wx => ∃ ba, s6 = .pointer (some ⟨b, p, none⟩) ∧ s7 = .pointer (some ⟨ba, 0, none⟩) ∧ Hid (wx.heap[ba]? = some (lbox s.cur.a)) ∧ Hid (ba ≠ b) ∧ Hid (Below w.heap.size w wx))
  case first =>
    have HNE : Hid (w.heap.size ≠ b) := Lib.hid (by have := H1.out.lt; have := H1.out.up; omega)
    have HNE2 : Hid (∀ W, Below w.heap.size w W → W.heap.size ≠ b) := Lib.hid fun W hb => by have := hb.size; have := H1.out.lt; have := H1.out.up; omega
    have q1 := HQ.out w.drew (Below.refl _ _).drew
    have HBA := Lib.hid (dal w lbox0)
    have HBB : Hid (∀ w2, Below (w.alloc lbox0).drew.heap.size (w.alloc lbox0).drew w2 → Below w.heap.size w w2 ∧ w2.heap[w.heap.size]? = some lbox0) := Lib.hid fun w2 hb => by
      have hs : w.heap.size ≤ (w.alloc lbox0).drew.heap.size := by show w.heap.size ≤ (w.alloc lbox0).heap.size; simp
      exact ⟨HBA.out.trans (hb.mono hs), Blk.kept (w := (w.alloc lbox0).drew) (heap_alloc_new w lbox0) hb⟩
    have q2 := HQ.out ((w.alloc lbox0).drew) HBA.out
    go_region_held3 (fun w' => w'.cell? ⟨b, 10, none⟩ = some (.int .i64 s.cur.a.fg) ∧ w'.cell? ⟨b, 11, none⟩ = some (.int .i64 s.cur.a.bg) ∧ w'.cell? ⟨b, 12, none⟩ = some (.int .i64 s.cur.a.flags)) (first | (with_reducible exact q6) | (with_reducible exact q5) | (with_reducible exact q4) | (with_reducible exact q3) | (with_reducible exact q2) | (with_reducible exact q1))
      ((first
        | (go_at_call 172; refine (HSE.out ((w.alloc lbox0).drew) (H1.out.kept HBA.out)).mono ?_; rintro e w2 ⟨rfl, hb⟩; have HB2 := Lib.hid (HBB.out w2 hb).1; have HZ2 := Lib.hid (HBB.out w2 hb).2; have q3 := HQ.out w2 HB2.out; have q4 := HQ.out (aall w2 w.heap.size s.cur.a) (aall_below HB2.out (Nat.le_refl _) s.cur.a); unfold aall at q4; obtain ⟨zf, z0, z1, z2⟩ := lbox0_cells HZ2.out; have HE : Hid ((aall w2 w.heap.size s.cur.a).heap[w.heap.size]? = some (lbox s.cur.a) ∧ w.heap.size ≠ b ∧ Below w.heap.size w (aall w2 w.heap.size s.cur.a)) := Lib.hid ⟨aall_box HZ2.out s.cur.a, HNE.out, aall_below HB2.out (Nat.le_refl _) s.cur.a⟩; clear hb)
        | (go_at_call 172; refine (HSE.out w.drew (H1.out.kept (Below.refl _ _).drew)).mono ?_; rintro e w2 ⟨rfl, hb⟩; have HB2 : Hid (Below w.heap.size w w2) := Lib.hid ((Below.refl _ _).drew.trans hb); have q3 := HQ.out w2 HB2.out; have q5 := HQ.out (w2.alloc lbox0) (HB2.out.trans ((bel_alloc w2 _).mono HB2.out.size)); have q6 := HQ.out (w2.alloc (lbox s.cur.a)) (HB2.out.trans ((bel_alloc w2 _).mono HB2.out.size)); have HE : Hid ((w2.alloc (lbox s.cur.a)).heap[w2.heap.size]? = some (lbox s.cur.a) ∧ w2.heap.size ≠ b ∧ Below w.heap.size w (w2.alloc (lbox s.cur.a))) := Lib.hid ⟨heap_alloc_new _ _, HNE2.out w2 HB2.out, HB2.out.trans ((bel_alloc w2 _).mono HB2.out.size)⟩; clear hb)))
    all_goals
      go_wp2_with fail
      go_meet
      exact ⟨_, rfl, rfl, Lib.hid HE.out.1, Lib.hid HE.out.2.1, Lib.hid HE.out.2.2⟩
  case rest =>
  obtain ⟨ba, rfl, rfl, HK, HNB, HB2⟩ := hcut
  rename World => w2
  have H2 := Lib.hid (H1.out.kept HB2.out)
  have HT : Hid (∀ w3, Below w2.drew.heap.size w2.drew w3 → Pn w3 b base s x y z ∧ Below b w w3 ∧ Only b w w3 ∧ w3.heap[ba]? = some (lbox s.cur.a)) := Lib.hid fun w3 hb => by
    have hb' : Below w2.heap.size w2 w3 := (Below.refl _ _).drew.trans hb
    have hw3 := HB2.out.trans (hb'.mono HB2.out.size)
    exact ⟨H2.out.kept hb', hw3.mono HLO.out, ⟨hw3.size, fun g o _ e => Blk.kept e hw3⟩, Blk.kept HK.out hb'⟩
  have HQ2 : Hid (∀ W, Pn W b base s x y z → W.heap[ba]? = some (lbox s.cur.a) → W.cell? ⟨b, 38, none⟩ = some (.int .i64 s.bottom) ∧ W.cell? ⟨ba, 0, none⟩ = some (.int .i64 s.cur.a.fg) ∧ W.cell? ⟨ba, 1, none⟩ = some (.int .i64 s.cur.a.bg) ∧ W.cell? ⟨ba, 2, none⟩ = some (.int .i64 s.cur.a.flags)) := Lib.hid fun W k ka => ⟨k.box.cell 38, Blk.cell ka 0, Blk.cell ka 1, Blk.cell ka 2⟩
  have HQ4 : Hid (∀ W R C v, Pn W b base s x y z → W.heap[ba]? = some (lbox s.cur.a) → (pput W b p R C v).cell? ⟨b, 38, none⟩ = some (.int .i64 s.bottom) ∧ (pput W b p R C v).cell? ⟨ba, 0, none⟩ = some (.int .i64 s.cur.a.fg) ∧ (pput W b p R C v).cell? ⟨ba, 1, none⟩ = some (.int .i64 s.cur.a.bg) ∧ (pput W b p R C v).cell? ⟨ba, 2, none⟩ = some (.int .i64 s.cur.a.flags)) := Lib.hid fun W R C v k ka => by
    rw [pput_cell HP3.out (by omega), pput_other HNB.out, pput_other HNB.out, pput_other HNB.out]
    exact HQ2.out W k ka
  have q2 := HQ2.out w2.drew (H2.out.kept (Below.refl _ _).drew) (Blk.kept HK.out (Below.refl _ _).drew)
  obtain ⟨g0, g1, g2⟩ := HG.out w2.drew (H2.out.kept (Below.refl _ _).drew).box
  go_upto_region 2 with (fail)
  refine wp_region_held_drew (S := fun w' => w'.cell? ⟨b, 38, none⟩ = some (.int .i64 s.bottom) ∧ w'.cell? ⟨ba, 0, none⟩ = some (.int .i64 s.cur.a.fg) ∧ w'.cell? ⟨ba, 1, none⟩ = some (.int .i64 s.cur.a.bg) ∧ w'.cell? ⟨ba, 2, none⟩ = some (.int .i64 s.cur.a.flags)) (by kernel_rfl) q2 (fun hHeld => ?_)
  refine wpAnyH_take (i := 0) (v := ?_) rfl (by kernel_rfl) (by kernel_rfl) (by kernel_rfl) (fun _ _ _ h => h) (Or.inl ⟨by rfl, ?_⟩) (by assumption) ?_
  rotate_left
  · intro w' hSw; first | (go_simp; done) | (go_simp; with_reducible rfl)
  simp only [Act.put, List.getElem_toArray, List.getElem_cons_zero, List.setIfInBounds_toArray, List.set_cons_zero, List.set_cons_succ]
  refine wpAnyH_take (i := 1) (v := ?_) rfl (by kernel_rfl) (by kernel_rfl) (by kernel_rfl) (fun _ _ _ h => h) (Or.inl ⟨by rfl, ?_⟩) (by assumption) ?_
  rotate_left
  · intro w' hSw; first | (go_simp; done) | (go_simp; with_reducible rfl)
  simp only [Act.put, List.getElem_toArray, List.getElem_cons_zero, List.getElem_cons_succ, List.setIfInBounds_toArray, List.set_cons_zero, List.set_cons_succ]
  refine wpAnyH_take (i := 2) (v := ?_) rfl (by kernel_rfl) (by kernel_rfl) (by kernel_rfl) (fun _ _ _ h => h) (Or.inl ⟨by rfl, ?_⟩) (by assumption) ?_
  rotate_left
  · intro w' hSw; first | (go_simp; done) | (go_simp; with_reducible rfl)
  simp only [Act.put, List.getElem_toArray, List.getElem_cons_zero, List.getElem_cons_succ, List.setIfInBounds_toArray, List.set_cons_zero, List.set_cons_succ]
  refine wpAnyH_take (i := 4) (v := ?_) rfl (by kernel_rfl) (by kernel_rfl) (by kernel_rfl) (fun _ _ _ h => h) (Or.inl ⟨by rfl, ?_⟩) (by assumption) ?_
  rotate_left
  · intro w' hSw; first | (go_simp; done) | (go_simp; with_reducible rfl)
  simp only [Act.put, List.getElem_toArray, List.getElem_cons_zero, List.getElem_cons_succ, List.setIfInBounds_toArray, List.set_cons_zero, List.set_cons_succ]
  refine wpAnyH_take (i := 5) (v := ?_) rfl (by kernel_rfl) (by kernel_rfl) (by kernel_rfl) (fun _ _ _ h => h) (Or.inl ⟨by rfl, ?_⟩) (by assumption) ?_
  rotate_left
  · intro w' hSw; first | (go_simp; done) | (go_simp; with_reducible rfl)
  simp only [Act.put, List.getElem_toArray, List.getElem_cons_zero, List.getElem_cons_succ, List.setIfInBounds_toArray, List.set_cons_zero, List.set_cons_succ]
  refine wpAnyH_take (i := 6) (v := ?_) rfl (by kernel_rfl) (by kernel_rfl) (by kernel_rfl) (fun _ _ _ h => h) (Or.inl ⟨by rfl, ?_⟩) (by assumption) ?_
  rotate_left
  · intro w' hSw; first | (go_simp; done) | (go_simp; with_reducible rfl)
  simp only [Act.put, List.getElem_toArray, List.getElem_cons_zero, List.getElem_cons_succ, List.setIfInBounds_toArray, List.set_cons_zero, List.set_cons_succ]
  refine wpAnyH_take (i := 7) (v := ?_) rfl (by kernel_rfl) (by kernel_rfl) (by kernel_rfl) (fun _ _ _ h => h) (Or.inl ⟨by rfl, ?_⟩) (by assumption) ?_
  rotate_left
  · intro w' hSw; first | (go_simp; done) | (go_simp; with_reducible rfl)
  simp only [Act.put, List.getElem_toArray, List.getElem_cons_zero, List.getElem_cons_succ, List.setIfInBounds_toArray, List.set_cons_zero, List.set_cons_succ]
  refine wpAnyH_take (i := 8) (v := ?_) rfl (by kernel_rfl) (by kernel_rfl) (by kernel_rfl) (fun _ _ _ h => h) (Or.inl ⟨by rfl, ?_⟩) (by assumption) ?_
  rotate_left
  · intro w' hSw; first | (go_simp; done) | (go_simp; with_reducible rfl)
  simp only [Act.put, List.getElem_toArray, List.getElem_cons_zero, List.getElem_cons_succ, List.setIfInBounds_toArray, List.set_cons_zero, List.set_cons_succ]
  refine wpAnyH_take (i := 9) (v := ?_) rfl (by kernel_rfl) (by kernel_rfl) (by kernel_rfl) (fun _ _ _ h => h) (Or.inl ⟨by rfl, ?_⟩) (by assumption) ?_
  rotate_left
  · intro w' hSw; first | (go_simp; done) | (go_simp; with_reducible rfl)
  simp only [Act.put, List.getElem_toArray, List.getElem_cons_zero, List.getElem_cons_succ, List.setIfInBounds_toArray, List.set_cons_zero, List.set_cons_succ]
  refine wpAnyH_take (i := 10) (v := ?_) rfl (by kernel_rfl) (by kernel_rfl) (by kernel_rfl) (fun _ _ _ h => h) (Or.inl ⟨by rfl, ?_⟩) (by assumption) ?_
  rotate_left
  · intro w' hSw; first | (go_simp; done) | (go_simp; with_reducible rfl)
  simp only [Act.put, List.getElem_toArray, List.getElem_cons_zero, List.getElem_cons_succ, List.setIfInBounds_toArray, List.set_cons_zero, List.set_cons_succ]
  refine wpAnyH_take (i := 11) (v := ?_) rfl (by kernel_rfl) (by kernel_rfl) (by kernel_rfl) (fun _ _ _ h => h) (Or.inl ⟨by rfl, ?_⟩) (by assumption) ?_
  rotate_left
  · intro w' hSw; first | (go_simp; done) | (go_simp; with_reducible rfl)
  simp only [Act.put, List.getElem_toArray, List.getElem_cons_zero, List.getElem_cons_succ, List.setIfInBounds_toArray, List.set_cons_zero, List.set_cons_succ]
  refine wpAnyH_ready (rs := [3]) (by kernel_rfl) (by simp) ?_
  refine AllReadyH.cons rfl (fun K hK => ?_) ?_
  · go_simp
    refine hK.out _ _ q2 (fun hHeld => ?_)
    clear hK K
    refine wpAnyH_ready (rs := [12]) (by kernel_rfl) (by simp) ?_
    refine AllReadyH.cons rfl (fun K hK => ?_) ?_
    · go_simp
      go_at_call 167
      refine (HUP.out w2.drew (HRM.out _ (H2.out.kept (Below.refl _ _).drew).own)).mono ?_; rintro e w3 ⟨v, rfl, ho, hb⟩
      obtain ⟨A', n', c', rfl⟩ : ∃ A n c, v = .slice A n c := (by obtain ⟨A, c, e, _⟩ := ho.rm.2; exact ⟨A, _, c, e⟩)
      have H3 := Lib.hid (HT.out w3 hb)
      have H4 := Lib.hid (HPN.out w3 _ H3.out.1 (ho.low H2.out.up))
      have HAP : Hid (Apart (putX s x (.slice A' n' c')) (putY s y (.slice A' n' c'))) := Lib.hid (put_apart (fun k e => (H2.out.own.m.lt k e).2) (fun k e => (H2.out.own.o.lt k e).2) (fun k e => (ho.lt k e).1))
      have q3 := HQ2.out w3 H3.out.1 H3.out.2.2.2
      obtain ⟨r0, r1, r2⟩ := HG.out w3 H3.out.1.box
      have q4 := HQ4.out w3 (moveG (seenG s) top s.bottom m s.cur.a).rows (moveG (seenG s) top s.bottom m s.cur.a).cols (.slice A' n' c') H3.out.1 H3.out.2.2.2
      have f2 : ∀ j, w3.frozen? ⟨b, j, none⟩ = false := H3.out.1.box.free
      clear ho hb
      refine hK.out _ _ q3 (fun hHeld => ?_)
      clear hK K
      refine wpAnyH_take (i := 13) (v := ?_) rfl (by kernel_rfl) (by kernel_rfl) (by kernel_rfl) (fun _ _ _ h => h) (Or.inl ⟨by rfl, ?_⟩) (by assumption) ?_
      rotate_left
      · intro w' hSw; first | (go_simp; done) | (go_simp; with_reducible rfl)
      simp only [Act.put, List.getElem_toArray, List.getElem_cons_zero, List.getElem_cons_succ, List.setIfInBounds_toArray, List.set_cons_zero, List.set_cons_succ]
      refine wpAnyH_take (i := 14) (v := ?_) rfl (by kernel_rfl) (by kernel_rfl) (by kernel_rfl) (fun _ _ _ h => h) (Or.inl ⟨by rfl, ?_⟩) (by assumption) ?_
      rotate_left
      · intro w' hSw; first | (go_simp; done) | (go_simp; with_reducible rfl)
      simp only [Act.put, List.getElem_toArray, List.getElem_cons_zero, List.getElem_cons_succ, List.setIfInBounds_toArray, List.set_cons_zero, List.set_cons_succ]
      refine wpAnyH_take (i := 15) (v := ?_) rfl (by kernel_rfl) (by kernel_rfl) (by kernel_rfl) (fun _ _ _ h => h) (Or.inl ⟨by rfl, ?_⟩) (by assumption) ?_
      rotate_left
      · intro w' hSw; first | (go_simp; done) | (go_simp; with_reducible rfl)
      simp only [Act.put, List.getElem_toArray, List.getElem_cons_zero, List.getElem_cons_succ, List.setIfInBounds_toArray, List.set_cons_zero, List.set_cons_succ]
      refine wpAnyH_take (i := 16) (v := ?_) rfl (by kernel_rfl) (by kernel_rfl) (by kernel_rfl) (fun _ _ _ h => h) (Or.inl ⟨by rfl, ?_⟩) (by assumption) ?_
      rotate_left
      · intro w' hSw; first | (go_simp; done) | (go_simp; with_reducible rfl)
      simp only [Act.put, List.getElem_toArray, List.getElem_cons_zero, List.getElem_cons_succ, List.setIfInBounds_toArray, List.set_cons_zero, List.set_cons_succ]
      refine wpAnyH_ready (rs := [17]) (by kernel_rfl) (by simp) ?_
      refine AllReadyH.cons rfl (fun K hK => ?_) ?_
      · go_simp
        refine hK.out _ _ q4 (fun hHeld => ?_)
        clear hK K
        refine wpAnyH_done (by kernel_rfl) ?_ _
        go_wp2_with fail
        exact bodyPost_ret (results_none rfl _ _ _) rfl ⟨rfl, _, _, H4.out, HAP.out, pput_below H3.out.2.1 (Nat.le_refl _) _ _ _, pput_only H3.out.2.2.1 _ _ _⟩
      exact AllReadyH.nil
    exact AllReadyH.nil
  exact AllReadyH.nil
set_option maxHeartbeats 6400000 in
theorem edRoll_down (s : S) (x y z : Value) (b base : Nat) (top n m : Int) (w : World) (h : Pn w b base s x y z) (hok : Ok s) (h0 : 0 ≤ top) (h1 : top ≤ s.bottom) (hn : n = m) (hm1 : 1 ≤ m) (hm : m ≤ 9999) :
    Calls Tryz.prog 139 #[.pointer (some ⟨b, 0, none⟩), .int .i64 top, .int .i64 n] w fun e w' => e = .returned (.tuple #[]) ∧ ∃ x' y', Pn w' b base (putG s (moveG (seenG s) top s.bottom (-m) s.cur.a)) x' y' z ∧ Apart x' y' ∧ Below b w w' ∧ Only b w w' := by
  have F := Lib.hid hok.facts
  have H1 := Lib.hid h
  have HLO := Lib.hid h.lo
  have HSC := Lib.hid (seat_arr s x y z)
  have HRM : Hid (∀ W, Own W base s x y z → Rm W (seenX s x y) (seenG s).cells) := Lib.hid fun W k => seenX_rm k.in_
  obtain ⟨X, hX⟩ : ∃ X, seenX s x y = X := ⟨_, rfl⟩
  rw [hX] at HSC HRM
  clear hX
  obtain ⟨AX, nX, cX, rfl⟩ : ∃ A n c, X = .slice A n c := (by obtain ⟨A, c, e, _⟩ := (HRM.out _ h.own).2; exact ⟨A, _, c, e⟩)
  have HPN : Hid (∀ W v, Pn W b base s x y z → OwnCs W base v (moveG (seenG s) top s.bottom (-m) s.cur.a).cells → Pn (pput W b (seatO s) (moveG (seenG s) top s.bottom (-m) s.cur.a).rows (moveG (seenG s) top s.bottom (-m) s.cur.a).cols v) b base (putG s (moveG (seenG s) top s.bottom (-m) s.cur.a)) (putX s x v) (putY s y v) z) := Lib.hid fun W v k hv => k.seen (G := moveG (seenG s) top s.bottom (-m) s.cur.a) hv
  have HUP : Hid (∀ W, Rm W (.slice AX nX cX) (seenG s).cells → _) := Lib.hid fun W k => downN_any (seenG s) (.slice AX nX cX) top s.bottom m s.cur.a W F.out.g k F.out.a h0 h1 (by have := F.out.gr; have := F.out.bot; omega) (by omega) hm
  obtain ⟨p, hp⟩ : ∃ p, seatO s = p := ⟨_, rfl⟩
  have HSE : Hid (∀ W, Pn W b base s x y z → _) := Lib.hid fun W k => edSeen_bel s x y z b p hp W k.box
  rw [hp] at HSC HPN
  have HP3 : Hid (p ≤ 3) := Lib.hid (by rw [← hp]; unfold seatO; split <;> omega)
  have HQ : Hid (∀ W, Below w.heap.size w W → W.cell? ⟨b, 10, none⟩ = some (.int .i64 s.cur.a.fg) ∧ W.cell? ⟨b, 11, none⟩ = some (.int .i64 s.cur.a.bg) ∧ W.cell? ⟨b, 12, none⟩ = some (.int .i64 s.cur.a.flags)) := Lib.hid fun W hb =>
    have k := (h.kept hb).box
    ⟨k.cell 10, k.cell 11, k.cell 12⟩
  have HG : Hid (∀ W, SBox W b s x y z → W.cell? ⟨b, p, none⟩ = some (.int .i64 (seenG s).rows) ∧ W.cell? ⟨b, p + 1, none⟩ = some (.int .i64 (seenG s).cols) ∧ W.cell? ⟨b, p + 2, none⟩ = some (.slice AX nX cX)) := Lib.hid fun W k =>
    ⟨by rw [k.cell]; exact HSC.out.1, by rw [k.cell]; exact HSC.out.2.1, by rw [k.cell]; exact HSC.out.2.2⟩
  have hd : decide (n < 0) = false := decide_eq_false (by omega)
  have hnn := hn.symm
  subst hnn
  clear hp h hok HSC h0 h1 hm1 hm
  go_enter Tryz.func139, Tryz.ntmps139
  go_upto_region 0 with (fail)
  go_cut [6, 7] from 8 to 14 (fun s6 s7 wx => ∃ ba, s6 = .pointer (some ⟨b, p, none⟩) ∧ s7 = .pointer (some ⟨ba, 0, none⟩) ∧ Hid (wx.heap[ba]? = some (lbox s.cur.a)) ∧ Hid (ba ≠ b) ∧ Hid (Below w.heap.size w wx))
  case first =>
    have HNE : Hid (w.heap.size ≠ b) := Lib.hid (by have := H1.out.lt; have := H1.out.up; omega)
    have HNE2 : Hid (∀ W, Below w.heap.size w W → W.heap.size ≠ b) := Lib.hid fun W hb => by have := hb.size; have := H1.out.lt; have := H1.out.up; omega
    have q1 := HQ.out w.drew (Below.refl _ _).drew
    have HBA := Lib.hid (dal w lbox0)
    have HBB : Hid (∀ w2, Below (w.alloc lbox0).drew.heap.size (w.alloc lbox0).drew w2 → Below w.heap.size w w2 ∧ w2.heap[w.heap.size]? = some lbox0) := Lib.hid fun w2 hb => by
      have hs : w.heap.size ≤ (w.alloc lbox0).drew.heap.size := by show w.heap.size ≤ (w.alloc lbox0).heap.size; simp
      exact ⟨HBA.out.trans (hb.mono hs), Blk.kept (w := (w.alloc lbox0).drew) (heap_alloc_new w lbox0) hb⟩
    have q2 := HQ.out ((w.alloc lbox0).drew) HBA.out
    go_region_held3 (fun w' => w'.cell? ⟨b, 10, none⟩ = some (.int .i64 s.cur.a.fg) ∧ w'.cell? ⟨b, 11, none⟩ = some (.int .i64 s.cur.a.bg) ∧ w'.cell? ⟨b, 12, none⟩ = some (.int .i64 s.cur.a.flags)) (first | (with_reducible exact q6) | (with_reducible exact q5) | (with_reducible exact q4) | (with_reducible exact q3) | (with_reducible exact q2) | (with_reducible exact q1))
      ((first
        | (go_at_call 172; refine (HSE.out ((w.alloc lbox0).drew) (H1.out.kept HBA.out)).mono ?_; rintro e w2 ⟨rfl, hb⟩; have HB2 := Lib.hid (HBB.out w2 hb).1; have HZ2 := Lib.hid (HBB.out w2 hb).2; have q3 := HQ.out w2 HB2.out; have q4 := HQ.out (aall w2 w.heap.size s.cur.a) (aall_below HB2.out (Nat.le_refl _) s.cur.a); unfold aall at q4; obtain ⟨zf, z0, z1, z2⟩ := lbox0_cells HZ2.out; have HE : Hid ((aall w2 w.heap.size s.cur.a).heap[w.heap.size]? = some (lbox s.cur.a) ∧ w.heap.size ≠ b ∧ Below w.heap.size w (aall w2 w.heap.size s.cur.a)) := Lib.hid ⟨aall_box HZ2.out s.cur.a, HNE.out, aall_below HB2.out (Nat.le_refl _) s.cur.a⟩; clear hb)
        | (go_at_call 172; refine (HSE.out w.drew (H1.out.kept (Below.refl _ _).drew)).mono ?_; rintro e w2 ⟨rfl, hb⟩; have HB2 : Hid (Below w.heap.size w w2) := Lib.hid ((Below.refl _ _).drew.trans hb); have q3 := HQ.out w2 HB2.out; have q5 := HQ.out (w2.alloc lbox0) (HB2.out.trans ((bel_alloc w2 _).mono HB2.out.size)); have q6 := HQ.out (w2.alloc (lbox s.cur.a)) (HB2.out.trans ((bel_alloc w2 _).mono HB2.out.size)); have HE : Hid ((w2.alloc (lbox s.cur.a)).heap[w2.heap.size]? = some (lbox s.cur.a) ∧ w2.heap.size ≠ b ∧ Below w.heap.size w (w2.alloc (lbox s.cur.a))) := Lib.hid ⟨heap_alloc_new _ _, HNE2.out w2 HB2.out, HB2.out.trans ((bel_alloc w2 _).mono HB2.out.size)⟩; clear hb)))
    all_goals
      go_wp2_with fail
      go_meet
      exact ⟨_, rfl, rfl, Lib.hid HE.out.1, Lib.hid HE.out.2.1, Lib.hid HE.out.2.2⟩
  case rest =>
  obtain ⟨ba, rfl, rfl, HK, HNB, HB2⟩ := hcut
  rename World => w2
  have H2 := Lib.hid (H1.out.kept HB2.out)
  have HT : Hid (∀ w3, Below w2.drew.heap.size w2.drew w3 → Pn w3 b base s x y z ∧ Below b w w3 ∧ Only b w w3 ∧ w3.heap[ba]? = some (lbox s.cur.a)) := Lib.hid fun w3 hb => by
    have hb' : Below w2.heap.size w2 w3 := (Below.refl _ _).drew.trans hb
    have hw3 := HB2.out.trans (hb'.mono HB2.out.size)
    exact ⟨H2.out.kept hb', hw3.mono HLO.out, ⟨hw3.size, fun g o _ e => Blk.kept e hw3⟩, Blk.kept HK.out hb'⟩
  have HQ2 : Hid (∀ W, Pn W b base s x y z → W.heap[ba]? = some (lbox s.cur.a) → W.cell? ⟨b, 38, none⟩ = some (.int .i64 s.bottom) ∧ W.cell? ⟨ba, 0, none⟩ = some (.int .i64 s.cur.a.fg) ∧ W.cell? ⟨ba, 1, none⟩ = some (.int .i64 s.cur.a.bg) ∧ W.cell? ⟨ba, 2, none⟩ = some (.int .i64 s.cur.a.flags)) := Lib.hid fun W k ka => ⟨k.box.cell 38, Blk.cell ka 0, Blk.cell ka 1, Blk.cell ka 2⟩
  have HQ4 : Hid (∀ W R C v, Pn W b base s x y z → W.heap[ba]? = some (lbox s.cur.a) → (pput W b p R C v).cell? ⟨b, 38, none⟩ = some (.int .i64 s.bottom) ∧ (pput W b p R C v).cell? ⟨ba, 0, none⟩ = some (.int .i64 s.cur.a.fg) ∧ (pput W b p R C v).cell? ⟨ba, 1, none⟩ = some (.int .i64 s.cur.a.bg) ∧ (pput W b p R C v).cell? ⟨ba, 2, none⟩ = some (.int .i64 s.cur.a.flags)) := Lib.hid fun W R C v k ka => by
    rw [pput_cell HP3.out (by omega), pput_other HNB.out, pput_other HNB.out, pput_other HNB.out]
    exact HQ2.out W k ka
  have q2 := HQ2.out w2.drew (H2.out.kept (Below.refl _ _).drew) (Blk.kept HK.out (Below.refl _ _).drew)
  obtain ⟨g0, g1, g2⟩ := HG.out w2.drew (H2.out.kept (Below.refl _ _).drew).box
  go_upto_region 3 with (fail)
  refine wp_region_held_drew (S := fun w' => w'.cell? ⟨b, 38, none⟩ = some (.int .i64 s.bottom) ∧ w'.cell? ⟨ba, 0, none⟩ = some (.int .i64 s.cur.a.fg) ∧ w'.cell? ⟨ba, 1, none⟩ = some (.int .i64 s.cur.a.bg) ∧ w'.cell? ⟨ba, 2, none⟩ = some (.int .i64 s.cur.a.flags)) (by kernel_rfl) q2 (fun hHeld => ?_)
  refine wpAnyH_take (i := 0) (v := ?_) rfl (by kernel_rfl) (by kernel_rfl) (by kernel_rfl) (fun _ _ _ h => h) (Or.inl ⟨by rfl, ?_⟩) (by assumption) ?_
  rotate_left
  · intro w' hSw; first | (go_simp; done) | (go_simp; with_reducible rfl)
  simp only [Act.put, List.getElem_toArray, List.getElem_cons_zero, List.setIfInBounds_toArray, List.set_cons_zero, List.set_cons_succ]
  refine wpAnyH_take (i := 1) (v := ?_) rfl (by kernel_rfl) (by kernel_rfl) (by kernel_rfl) (fun _ _ _ h => h) (Or.inl ⟨by rfl, ?_⟩) (by assumption) ?_
  rotate_left
  · intro w' hSw; first | (go_simp; done) | (go_simp; with_reducible rfl)
  simp only [Act.put, List.getElem_toArray, List.getElem_cons_zero, List.getElem_cons_succ, List.setIfInBounds_toArray, List.set_cons_zero, List.set_cons_succ]
  refine wpAnyH_take (i := 2) (v := ?_) rfl (by kernel_rfl) (by kernel_rfl) (by kernel_rfl) (fun _ _ _ h => h) (Or.inl ⟨by rfl, ?_⟩) (by assumption) ?_
  rotate_left
  · intro w' hSw; first | (go_simp; done) | (go_simp; with_reducible rfl)
  simp only [Act.put, List.getElem_toArray, List.getElem_cons_zero, List.getElem_cons_succ, List.setIfInBounds_toArray, List.set_cons_zero, List.set_cons_succ]
  refine wpAnyH_take (i := 4) (v := ?_) rfl (by kernel_rfl) (by kernel_rfl) (by kernel_rfl) (fun _ _ _ h => h) (Or.inl ⟨by rfl, ?_⟩) (by assumption) ?_
  rotate_left
  · intro w' hSw; first | (go_simp; done) | (go_simp; with_reducible rfl)
  simp only [Act.put, List.getElem_toArray, List.getElem_cons_zero, List.getElem_cons_succ, List.setIfInBounds_toArray, List.set_cons_zero, List.set_cons_succ]
  refine wpAnyH_take (i := 5) (v := ?_) rfl (by kernel_rfl) (by kernel_rfl) (by kernel_rfl) (fun _ _ _ h => h) (Or.inl ⟨by rfl, ?_⟩) (by assumption) ?_
  rotate_left
  · intro w' hSw; first | (go_simp; done) | (go_simp; with_reducible rfl)
  simp only [Act.put, List.getElem_toArray, List.getElem_cons_zero, List.getElem_cons_succ, List.setIfInBounds_toArray, List.set_cons_zero, List.set_cons_succ]
  refine wpAnyH_take (i := 6) (v := ?_) rfl (by kernel_rfl) (by kernel_rfl) (by kernel_rfl) (fun _ _ _ h => h) (Or.inl ⟨by rfl, ?_⟩) (by assumption) ?_
  rotate_left
  · intro w' hSw; first | (go_simp; done) | (go_simp; with_reducible rfl)
  simp only [Act.put, List.getElem_toArray, List.getElem_cons_zero, List.getElem_cons_succ, List.setIfInBounds_toArray, List.set_cons_zero, List.set_cons_succ]
  refine wpAnyH_take (i := 7) (v := ?_) rfl (by kernel_rfl) (by kernel_rfl) (by kernel_rfl) (fun _ _ _ h => h) (Or.inl ⟨by rfl, ?_⟩) (by assumption) ?_
  rotate_left
  · intro w' hSw; first | (go_simp; done) | (go_simp; with_reducible rfl)
  simp only [Act.put, List.getElem_toArray, List.getElem_cons_zero, List.getElem_cons_succ, List.setIfInBounds_toArray, List.set_cons_zero, List.set_cons_succ]
  refine wpAnyH_take (i := 8) (v := ?_) rfl (by kernel_rfl) (by kernel_rfl) (by kernel_rfl) (fun _ _ _ h => h) (Or.inl ⟨by rfl, ?_⟩) (by assumption) ?_
  rotate_left
  · intro w' hSw; first | (go_simp; done) | (go_simp; with_reducible rfl)
  simp only [Act.put, List.getElem_toArray, List.getElem_cons_zero, List.getElem_cons_succ, List.setIfInBounds_toArray, List.set_cons_zero, List.set_cons_succ]
  refine wpAnyH_take (i := 9) (v := ?_) rfl (by kernel_rfl) (by kernel_rfl) (by kernel_rfl) (fun _ _ _ h => h) (Or.inl ⟨by rfl, ?_⟩) (by assumption) ?_
  rotate_left
  · intro w' hSw; first | (go_simp; done) | (go_simp; with_reducible rfl)
  simp only [Act.put, List.getElem_toArray, List.getElem_cons_zero, List.getElem_cons_succ, List.setIfInBounds_toArray, List.set_cons_zero, List.set_cons_succ]
  refine wpAnyH_take (i := 10) (v := ?_) rfl (by kernel_rfl) (by kernel_rfl) (by kernel_rfl) (fun _ _ _ h => h) (Or.inl ⟨by rfl, ?_⟩) (by assumption) ?_
  rotate_left
  · intro w' hSw; first | (go_simp; done) | (go_simp; with_reducible rfl)
  simp only [Act.put, List.getElem_toArray, List.getElem_cons_zero, List.getElem_cons_succ, List.setIfInBounds_toArray, List.set_cons_zero, List.set_cons_succ]
  refine wpAnyH_ready (rs := [3]) (by kernel_rfl) (by simp) ?_
  refine AllReadyH.cons rfl (fun K hK => ?_) ?_
  · go_simp
    refine hK.out _ _ q2 (fun hHeld => ?_)
    clear hK K
    refine wpAnyH_ready (rs := [11]) (by kernel_rfl) (by simp) ?_
    refine AllReadyH.cons rfl (fun K hK => ?_) ?_
    · go_simp
      go_at_call 173
      refine (HUP.out w2.drew (HRM.out _ (H2.out.kept (Below.refl _ _).drew).own)).mono ?_; rintro e w3 ⟨v, rfl, ho, hb⟩
      obtain ⟨A', n', c', rfl⟩ : ∃ A n c, v = .slice A n c := (by obtain ⟨A, c, e, _⟩ := ho.rm.2; exact ⟨A, _, c, e⟩)
      have H3 := Lib.hid (HT.out w3 hb)
      have H4 := Lib.hid (HPN.out w3 _ H3.out.1 (ho.low H2.out.up))
      have HAP : Hid (Apart (putX s x (.slice A' n' c')) (putY s y (.slice A' n' c'))) := Lib.hid (put_apart (fun k e => (H2.out.own.m.lt k e).2) (fun k e => (H2.out.own.o.lt k e).2) (fun k e => (ho.lt k e).1))
      have q3 := HQ2.out w3 H3.out.1 H3.out.2.2.2
      obtain ⟨r0, r1, r2⟩ := HG.out w3 H3.out.1.box
      have q4 := HQ4.out w3 (moveG (seenG s) top s.bottom (-m) s.cur.a).rows (moveG (seenG s) top s.bottom (-m) s.cur.a).cols (.slice A' n' c') H3.out.1 H3.out.2.2.2
      have f2 : ∀ j, w3.frozen? ⟨b, j, none⟩ = false := H3.out.1.box.free
      clear ho hb
      refine hK.out _ _ q3 (fun hHeld => ?_)
      clear hK K
      refine wpAnyH_take (i := 12) (v := ?_) rfl (by kernel_rfl) (by kernel_rfl) (by kernel_rfl) (fun _ _ _ h => h) (Or.inl ⟨by rfl, ?_⟩) (by assumption) ?_
      rotate_left
      · intro w' hSw; first | (go_simp; done) | (go_simp; with_reducible rfl)
      simp only [Act.put, List.getElem_toArray, List.getElem_cons_zero, List.getElem_cons_succ, List.setIfInBounds_toArray, List.set_cons_zero, List.set_cons_succ]
      refine wpAnyH_take (i := 13) (v := ?_) rfl (by kernel_rfl) (by kernel_rfl) (by kernel_rfl) (fun _ _ _ h => h) (Or.inl ⟨by rfl, ?_⟩) (by assumption) ?_
      rotate_left
      · intro w' hSw; first | (go_simp; done) | (go_simp; with_reducible rfl)
      simp only [Act.put, List.getElem_toArray, List.getElem_cons_zero, List.getElem_cons_succ, List.setIfInBounds_toArray, List.set_cons_zero, List.set_cons_succ]
      refine wpAnyH_take (i := 14) (v := ?_) rfl (by kernel_rfl) (by kernel_rfl) (by kernel_rfl) (fun _ _ _ h => h) (Or.inl ⟨by rfl, ?_⟩) (by assumption) ?_
      rotate_left
      · intro w' hSw; first | (go_simp; done) | (go_simp; with_reducible rfl)
      simp only [Act.put, List.getElem_toArray, List.getElem_cons_zero, List.getElem_cons_succ, List.setIfInBounds_toArray, List.set_cons_zero, List.set_cons_succ]
      refine wpAnyH_take (i := 15) (v := ?_) rfl (by kernel_rfl) (by kernel_rfl) (by kernel_rfl) (fun _ _ _ h => h) (Or.inl ⟨by rfl, ?_⟩) (by assumption) ?_
      rotate_left
      · intro w' hSw; first | (go_simp; done) | (go_simp; with_reducible rfl)
      simp only [Act.put, List.getElem_toArray, List.getElem_cons_zero, List.getElem_cons_succ, List.setIfInBounds_toArray, List.set_cons_zero, List.set_cons_succ]
      refine wpAnyH_ready (rs := [16]) (by kernel_rfl) (by simp) ?_
      refine AllReadyH.cons rfl (fun K hK => ?_) ?_
      · go_simp
        refine hK.out _ _ q4 (fun hHeld => ?_)
        clear hK K
        refine wpAnyH_done (by kernel_rfl) ?_ _
        go_wp2_with fail
        go_end0
        exact ⟨rfl, _, _, H4.out, HAP.out, pput_below H3.out.2.1 (Nat.le_refl _) _ _ _, pput_only H3.out.2.2.1 _ _ _⟩
      exact AllReadyH.nil
    exact AllReadyH.nil
  exact AllReadyH.nil
theorem edRoll_any (s : S) (x y z : Value) (b base : Nat) (top n : Int) (w : World) (h : Pn w b base s x y z) (hok : Ok s) (h0 : 0 ≤ top) (h1 : top ≤ s.bottom) (hn : n ≠ 0) (hl : -9999 ≤ n) (hh : n ≤ 9999) :
    Calls Tryz.prog 139 #[.pointer (some ⟨b, 0, none⟩), .int .i64 top, .int .i64 n] w fun e w' => e = .returned (.tuple #[]) ∧ ∃ x' y', Pn w' b base (rollS s top n) x' y' z ∧ Apart x' y' ∧ Below b w w' ∧ Only b w w' := by
  unfold rollS
  by_cases hc : n < 0
  · exact edRoll_up s x y z b base top n (-n) w h hok h0 h1 (by omega) (by omega) (by omega)
  · exact edRoll_down s x y z b base top n n w h hok h0 h1 rfl (by omega) hh
end Scr
end
section
open Go.RowKit
namespace Scr
open Go.Proofs.YtceaoadlhdgnmaaGreatDoor.Row Wid
structure Near (b base : Nat) (w w' : World) : Prop where
  bel : Below b w w'
  mid : ∀ (k : Nat) (o : Obj), k < base → k ≠ b → w.heap[k]? = some o → w'.heap[k]? = some o
theorem Near.refl (b base : Nat) (w : World) : Near b base w w := ⟨Below.refl _ _, fun _ _ _ _ h => h⟩
theorem Near.trans {b base : Nat} {w w' w2 : World} (h : Near b base w w') (k : Near b base w' w2) : Near b base w w2 := ⟨h.bel.trans k.bel, fun q o h1 h2 e => k.mid q o h1 h2 (h.mid q o h1 h2 e)⟩
theorem near_only {b base : Nat} {w w' : World} (h : Below b w w') (ho : Only b w w') : Near b base w w' := ⟨h, fun k o _ hn e => ho.2 k o hn e⟩
theorem near_below {b base : Nat} {w w' : World} (hb : b ≤ base) (h : Below base w w') : Near b base w w' := ⟨h.mono hb, fun k _ hk _ e => (h.block k hk).trans e⟩
theorem near_set {b base : Nat} (w : World) (j : Nat) (u : Value) : Near b base w (w.setCell ⟨b, j, none⟩ u) := near_only ((Below.refl b w).setCell (Nat.le_refl b) _) ((Only.refl b w).set _ _)
abbrev ekbx (k : Cur) : Obj := .cells #[.int .i64 k.row, .int .i64 k.col, .bool k.wrap, .int .i64 k.a.fg, .int .i64 k.a.bg, .int .i64 k.a.flags, .int .i64 k.g0, .int .i64 k.g1, .int .i64 k.shift, .bool k.origin] 33 (0, 0)
theorem cbox0_cellsE {w : World} {b : Nat} (h : w.heap[b]? = some cbox0) : (∀ j, w.frozen? ⟨b, j, none⟩ = false) ∧ w.cell? ⟨b, 0, none⟩ = some (.int .i64 0) ∧ w.cell? ⟨b, 1, none⟩ = some (.int .i64 0) ∧ w.cell? ⟨b, 2, none⟩ = some (.bool false) ∧ w.cell? ⟨b, 3, none⟩ = some (.int .i64 0) ∧ w.cell? ⟨b, 4, none⟩ = some (.int .i64 0) ∧
    w.cell? ⟨b, 5, none⟩ = some (.int .i64 0) ∧ w.cell? ⟨b, 6, none⟩ = some (.int .i64 0) ∧ w.cell? ⟨b, 7, none⟩ = some (.int .i64 0) ∧ w.cell? ⟨b, 8, none⟩ = some (.int .i64 0) ∧ w.cell? ⟨b, 9, none⟩ = some (.bool false) :=
  ⟨Blk.free h, Blk.cell h 0, Blk.cell h 1, Blk.cell h 2, Blk.cell h 3, Blk.cell h 4, Blk.cell h 5, Blk.cell h 6, Blk.cell h 7, Blk.cell h 8, Blk.cell h 9⟩
set_option maxHeartbeats 6400000 in
theorem edPush_del (s : S) (x y z : Value) (b base : Nat) (n : Int) (m : Nat) (w : World) (h : Pn w b base s x y z) (hap : Apart x y) (hok : Ok s) (hn : n = -(m : Int)) (hm1 : 1 ≤ m) (hm : m ≤ 9999) :
    Calls Tryz.prog 141 #[.pointer (some ⟨b, 0, none⟩), .int .i64 n] w fun e w' => e = .returned (.tuple #[]) ∧ Pn w' b base (deleteS s m) x y z ∧ Below base w w' := by
  obtain ⟨g, n0, cap, hX⟩ := seenX_some h hok.facts.g
  have F := Lib.hid hok.facts
  have L := Lib.hid hok.line
  have HAP := Lib.hid hap
  have H1 := Lib.hid h
  have hrow : ((s.cur.row.toNat : Nat) : Int) = s.cur.row := by have := F.out.row0; omega
  have HLN : Hid (∀ W, Pn W b base s x y z → Calls Tryz.prog 174 #[.pointer (some ⟨b, 0, none⟩), .int .i64 s.cur.row] W fun e w' => ∃ c', e = .returned (.slice (some ⟨g, lineAt s * 6, none⟩) (seenG s).cols.toNat c') ∧ Below W.heap.size W w') := Lib.hid fun W k => by
    have q := edLine_at s x y z b base g n0 cap s.cur.row.toNat W hX k F.out.g (by have := F.out.row1; have := F.out.gr; omega)
    rw [hrow] at q
    exact q
  have HXX := Lib.hid hX
  have HUP := Lib.hid h.up
  have hd : decide (n < 0) = true := decide_eq_true (by omega)
  have hw : IntKind.i64.wrap (-n) = (m : Int) := by rw [IntKind.wrap_i64]; omega
  clear hn
  clear h hap hok hX hrow
  have HQ : Hid (∀ W, Below w.heap.size w W → (W.cell? ⟨b, 7, none⟩ = some (.int .i64 s.cur.row) ∧ W.cell? ⟨b, 8, none⟩ = some (.int .i64 s.cur.col) ∧ W.cell? ⟨b, 9, none⟩ = some (.bool s.cur.wrap) ∧ W.cell? ⟨b, 10, none⟩ = some (.int .i64 s.cur.a.fg) ∧ W.cell? ⟨b, 11, none⟩ = some (.int .i64 s.cur.a.bg) ∧ W.cell? ⟨b, 12, none⟩ = some (.int .i64 s.cur.a.flags) ∧
      W.cell? ⟨b, 13, none⟩ = some (.int .i64 s.cur.g0) ∧ W.cell? ⟨b, 14, none⟩ = some (.int .i64 s.cur.g1) ∧ W.cell? ⟨b, 15, none⟩ = some (.int .i64 s.cur.shift) ∧ W.cell? ⟨b, 16, none⟩ = some (.bool s.cur.origin))) := Lib.hid fun W hb =>
    have k := (H1.out.kept hb).box
    ⟨k.cell 7, k.cell 8, k.cell 9, k.cell 10, k.cell 11, k.cell 12, k.cell 13, k.cell 14, k.cell 15, k.cell 16⟩
  go_enter Tryz.func141, Tryz.ntmps141
  go_upto_region 0 with (fail)
  go_cut [4, 5] from 7 to 17 (fun s4 s5 wx => ∃ b4 c', s5 = .pointer (some ⟨b4, 0, none⟩) ∧ s4 = .slice (some ⟨g, lineAt s * 6, none⟩) (seenG s).cols.toNat c' ∧ Hid (wx.heap[b4]? = some (.cells #[.int .i64 s.cur.row, .int .i64 s.cur.col, .bool s.cur.wrap, .int .i64 s.cur.a.fg, .int .i64 s.cur.a.bg, .int .i64 s.cur.a.flags, .int .i64 s.cur.g0, .int .i64 s.cur.g1, .int .i64 s.cur.shift, .bool s.cur.origin] 33 (0, 0))) ∧ Hid (Below w.heap.size w wx))
  case first =>
    have q1 := HQ.out w.drew (Below.refl _ _).drew
    have HBA := Lib.hid (dal w cbox0)
    have HBB : Hid (∀ w2, Below (w.alloc cbox0).drew.heap.size (w.alloc cbox0).drew w2 → Below w.heap.size w w2 ∧ w2.heap[w.heap.size]? = some cbox0) := Lib.hid fun w2 hb => by
      have hs : w.heap.size ≤ (w.alloc cbox0).drew.heap.size := by show w.heap.size ≤ (w.alloc cbox0).heap.size; simp
      exact ⟨HBA.out.trans (hb.mono hs), Blk.kept (w := (w.alloc cbox0).drew) (heap_alloc_new w cbox0) hb⟩
    have q2 := HQ.out ((w.alloc cbox0).drew) HBA.out
    go_region_held3 (fun w' => w'.cell? ⟨b, 7, none⟩ = some (.int .i64 s.cur.row) ∧ w'.cell? ⟨b, 8, none⟩ = some (.int .i64 s.cur.col) ∧ w'.cell? ⟨b, 9, none⟩ = some (.bool s.cur.wrap) ∧ w'.cell? ⟨b, 10, none⟩ = some (.int .i64 s.cur.a.fg) ∧ w'.cell? ⟨b, 11, none⟩ = some (.int .i64 s.cur.a.bg) ∧ w'.cell? ⟨b, 12, none⟩ = some (.int .i64 s.cur.a.flags) ∧ w'.cell? ⟨b, 13, none⟩ = some (.int .i64 s.cur.g0) ∧ w'.cell? ⟨b, 14, none⟩ = some (.int .i64 s.cur.g1) ∧ w'.cell? ⟨b, 15, none⟩ = some (.int .i64 s.cur.shift) ∧ w'.cell? ⟨b, 16, none⟩ = some (.bool s.cur.origin)) (first | (with_reducible exact q6) | (with_reducible exact q5) | (with_reducible exact q4) | (with_reducible exact q3) | (with_reducible exact q2) | (with_reducible exact q1))
      ((first
        | (go_at_call 174; refine (HLN.out ((w.alloc cbox0).drew) (H1.out.kept HBA.out)).mono ?_; rintro e w2 ⟨c', rfl, hb⟩; have HB2 := Lib.hid (HBB.out w2 hb).1; have HZ2 := Lib.hid (HBB.out w2 hb).2; have q3 := HQ.out w2 HB2.out; have q4 := HQ.out (kall w2 w.heap.size s.cur) (kall_below HB2.out (Nat.le_refl _) s.cur); unfold kall at q4; obtain ⟨zf, z0, z1, z2, z3, z4, z5, z6, z7, z8, z9⟩ := cbox0_cellsE HZ2.out; have HE : Hid ((kall w2 w.heap.size s.cur).heap[w.heap.size]? = some (.cells #[.int .i64 s.cur.row, .int .i64 s.cur.col, .bool s.cur.wrap, .int .i64 s.cur.a.fg, .int .i64 s.cur.a.bg, .int .i64 s.cur.a.flags, .int .i64 s.cur.g0, .int .i64 s.cur.g1, .int .i64 s.cur.shift, .bool s.cur.origin] 33 (0, 0)) ∧ Below w.heap.size w (kall w2 w.heap.size s.cur)) := Lib.hid ⟨kall_box HZ2.out s.cur, kall_below HB2.out (Nat.le_refl _) s.cur⟩; clear hb)
        | (go_at_call 174; refine (HLN.out w.drew (H1.out.kept (Below.refl _ _).drew)).mono ?_; rintro e w2 ⟨c', rfl, hb⟩; have HB2 : Hid (Below w.heap.size w w2) := Lib.hid ((Below.refl _ _).drew.trans hb); have q3 := HQ.out w2 HB2.out; have q5 := HQ.out (w2.alloc cbox0) (HB2.out.trans ((bel_alloc w2 _).mono HB2.out.size)); have q6 := HQ.out (w2.alloc (ekbx s.cur)) (HB2.out.trans ((bel_alloc w2 _).mono HB2.out.size)); have HE : Hid ((w2.alloc (ekbx s.cur)).heap[w2.heap.size]? = some (ekbx s.cur) ∧ Below w.heap.size w (w2.alloc (ekbx s.cur))) := Lib.hid ⟨heap_alloc_new _ _, HB2.out.trans ((bel_alloc w2 _).mono HB2.out.size)⟩; clear hb)))
    all_goals
      go_wp2_with fail
      go_meet
      exact ⟨_, _, rfl, rfl, Lib.hid HE.out.1, Lib.hid HE.out.2⟩
  case rest =>
  obtain ⟨b4, c', rfl, rfl, HK, HB2⟩ := hcut
  rename World => w2
  have H2 := Lib.hid (H1.out.kept HB2.out)
  clear HQ H1
  have d1 : w2.cell? ⟨b4, 1, none⟩ = some (.int .i64 s.cur.col) := Blk.cell HK.out 1
  have d3 : w2.cell? ⟨b4, 3, none⟩ = some (.int .i64 s.cur.a.fg) := Blk.cell HK.out 3
  have d4 : w2.cell? ⟨b4, 4, none⟩ = some (.int .i64 s.cur.a.bg) := Blk.cell HK.out 4
  have d5 : w2.cell? ⟨b4, 5, none⟩ = some (.int .i64 s.cur.a.flags) := Blk.cell HK.out 5
  have hcol : (s.cur.col.toNat : Int) = s.cur.col := by have := F.out.col0; omega
  have hck : s.cur.col.toNat ≤ (lineS s).length := by rw [L.out.len]; have := L.out.cI; have := F.out.col1; omega
  have hrm : roomN s m = min m ((lineS s).length - s.cur.col.toNat) := by unfold roomN; rw [L.out.len]
  have HML : Hid ((deleteOf (lineS s) s.cur.col.toNat (roomN s m) s.cur.a).length = (seenG s).cols.toNat) := Lib.hid (by
    have q := deleteOk (l := lineS s) (p := s.cur.col.toNat) (n := roomN s m) L.out.ok F.out.a (by rw [hrm]; omega)
    rw [q.2, L.out.len])
  have HPT : Hid (∀ W, Pn W b base s x y z → _) := Lib.hid fun W k => delete_fits (lineS s) s.cur.a s.cur.col.toNat m (roomN s m) hrm (.slice (some ⟨g, lineAt s * 6, none⟩) (seenG s).cols.toNat c') W (k.line HXX.out L.out c') L.out.held (by rw [L.out.len]; have := L.out.c40; omega) L.out.ok F.out.a hck hm
  rw [hcol] at HPT
  have HMM : Hid (withLine s (deleteOf (lineS s) s.cur.col.toNat (roomN s m) s.cur.a) = deleteS s m) := Lib.hid rfl
  clear hcol hck hrm hm1 hm
  generalize deleteOf (lineS s) s.cur.col.toNat (roomN s m) s.cur.a = q at HPT HML HMM
  go_wp2_with fail
  refine (HPT.out w2 H2.out).mono ?_; rintro e w4 ⟨v, rfl, ho, hb⟩
  have H4 := Lib.hid (H2.out.kept hb)
  have HO4 := Lib.hid ho
  have HA4 := Lib.hid (HB2.out.trans (hb.mono HB2.out.size))
  clear ho hb d1 d3 d4 d5 H2 HPT HLN
  have hC1 := L.out.c1
  rcases HO4.out.shape with ⟨_, e0⟩ | ⟨g2, cap2, e0, _, _⟩
  · have := HML.out; rw [e0] at this; simp at this; omega
  rw [HML.out] at e0
  subst e0
  have HSR := Lib.hid (HO4.out.cs.flat.2)
  obtain ⟨w6, hrun, ho6, hon6, hb6⟩ := run_copy_into (ty := 3) (k := lineAt s) (dCap := c') (sCap := cap2) (H4.out.cells HXX.out) HML.out L.out.fit HSR.out
  have H6 := Lib.hid (H4.out.over HAP.out HXX.out ho6 hon6 hon6.1)
  have HB6 := Lib.hid (hb6 base w (HA4.out.mono HUP.out) ((H4.out.cells HXX.out).lt g rfl).1)
  clear ho6 hon6 hb6 H4 HO4 HA4 HSR HML
  go_wp2_with fail
  go_end0
  rw [← HMM.out]
  exact ⟨rfl, H6.out, HB6.out⟩
set_option maxHeartbeats 6400000 in
theorem edPush_ins (s : S) (x y z : Value) (b base : Nat) (n : Int) (m : Nat) (w : World) (h : Pn w b base s x y z) (hap : Apart x y) (hok : Ok s) (hn : n = (m : Int)) (hm1 : 1 ≤ m) (hm : m ≤ 9999) :
    Calls Tryz.prog 141 #[.pointer (some ⟨b, 0, none⟩), .int .i64 n] w fun e w' => e = .returned (.tuple #[]) ∧ Pn w' b base (insertS s m) x y z ∧ Below base w w' := by
  obtain ⟨g, n0, cap, hX⟩ := seenX_some h hok.facts.g
  have F := Lib.hid hok.facts
  have L := Lib.hid hok.line
  have HAP := Lib.hid hap
  have H1 := Lib.hid h
  have hrow : ((s.cur.row.toNat : Nat) : Int) = s.cur.row := by have := F.out.row0; omega
  have HLN : Hid (∀ W, Pn W b base s x y z → Calls Tryz.prog 174 #[.pointer (some ⟨b, 0, none⟩), .int .i64 s.cur.row] W fun e w' => ∃ c', e = .returned (.slice (some ⟨g, lineAt s * 6, none⟩) (seenG s).cols.toNat c') ∧ Below W.heap.size W w') := Lib.hid fun W k => by
    have q := edLine_at s x y z b base g n0 cap s.cur.row.toNat W hX k F.out.g (by have := F.out.row1; have := F.out.gr; omega)
    rw [hrow] at q
    exact q
  have HXX := Lib.hid hX
  have HUP := Lib.hid h.up
  have hd : decide (n < 0) = false := decide_eq_false (by omega)
  have hnn := hn.symm
  subst hnn
  clear h hap hok hX hrow
  have HQ : Hid (∀ W, Below w.heap.size w W → (W.cell? ⟨b, 7, none⟩ = some (.int .i64 s.cur.row) ∧ W.cell? ⟨b, 8, none⟩ = some (.int .i64 s.cur.col) ∧ W.cell? ⟨b, 9, none⟩ = some (.bool s.cur.wrap) ∧ W.cell? ⟨b, 10, none⟩ = some (.int .i64 s.cur.a.fg) ∧ W.cell? ⟨b, 11, none⟩ = some (.int .i64 s.cur.a.bg) ∧ W.cell? ⟨b, 12, none⟩ = some (.int .i64 s.cur.a.flags) ∧
      W.cell? ⟨b, 13, none⟩ = some (.int .i64 s.cur.g0) ∧ W.cell? ⟨b, 14, none⟩ = some (.int .i64 s.cur.g1) ∧ W.cell? ⟨b, 15, none⟩ = some (.int .i64 s.cur.shift) ∧ W.cell? ⟨b, 16, none⟩ = some (.bool s.cur.origin))) := Lib.hid fun W hb =>
    have k := (H1.out.kept hb).box
    ⟨k.cell 7, k.cell 8, k.cell 9, k.cell 10, k.cell 11, k.cell 12, k.cell 13, k.cell 14, k.cell 15, k.cell 16⟩
  go_enter Tryz.func141, Tryz.ntmps141
  go_upto_region 0 with (fail)
  go_cut [4, 5] from 7 to 17 (fun s4 s5 wx => ∃ b4 c', s5 = .pointer (some ⟨b4, 0, none⟩) ∧ s4 = .slice (some ⟨g, lineAt s * 6, none⟩) (seenG s).cols.toNat c' ∧ Hid (wx.heap[b4]? = some (.cells #[.int .i64 s.cur.row, .int .i64 s.cur.col, .bool s.cur.wrap, .int .i64 s.cur.a.fg, .int .i64 s.cur.a.bg, .int .i64 s.cur.a.flags, .int .i64 s.cur.g0, .int .i64 s.cur.g1, .int .i64 s.cur.shift, .bool s.cur.origin] 33 (0, 0))) ∧ Hid (Below w.heap.size w wx))
  case first =>
    have q1 := HQ.out w.drew (Below.refl _ _).drew
    have HBA := Lib.hid (dal w cbox0)
    have HBB : Hid (∀ w2, Below (w.alloc cbox0).drew.heap.size (w.alloc cbox0).drew w2 → Below w.heap.size w w2 ∧ w2.heap[w.heap.size]? = some cbox0) := Lib.hid fun w2 hb => by
      have hs : w.heap.size ≤ (w.alloc cbox0).drew.heap.size := by show w.heap.size ≤ (w.alloc cbox0).heap.size; simp
      exact ⟨HBA.out.trans (hb.mono hs), Blk.kept (w := (w.alloc cbox0).drew) (heap_alloc_new w cbox0) hb⟩
    have q2 := HQ.out ((w.alloc cbox0).drew) HBA.out
    go_region_held3 (fun w' => w'.cell? ⟨b, 7, none⟩ = some (.int .i64 s.cur.row) ∧ w'.cell? ⟨b, 8, none⟩ = some (.int .i64 s.cur.col) ∧ w'.cell? ⟨b, 9, none⟩ = some (.bool s.cur.wrap) ∧ w'.cell? ⟨b, 10, none⟩ = some (.int .i64 s.cur.a.fg) ∧ w'.cell? ⟨b, 11, none⟩ = some (.int .i64 s.cur.a.bg) ∧ w'.cell? ⟨b, 12, none⟩ = some (.int .i64 s.cur.a.flags) ∧ w'.cell? ⟨b, 13, none⟩ = some (.int .i64 s.cur.g0) ∧ w'.cell? ⟨b, 14, none⟩ = some (.int .i64 s.cur.g1) ∧ w'.cell? ⟨b, 15, none⟩ = some (.int .i64 s.cur.shift) ∧ w'.cell? ⟨b, 16, none⟩ = some (.bool s.cur.origin)) (first | (with_reducible exact q6) | (with_reducible exact q5) | (with_reducible exact q4) | (with_reducible exact q3) | (with_reducible exact q2) | (with_reducible exact q1))
      ((first
        | (go_at_call 174; refine (HLN.out ((w.alloc cbox0).drew) (H1.out.kept HBA.out)).mono ?_; rintro e w2 ⟨c', rfl, hb⟩; have HB2 := Lib.hid (HBB.out w2 hb).1; have HZ2 := Lib.hid (HBB.out w2 hb).2; have q3 := HQ.out w2 HB2.out; have q4 := HQ.out (kall w2 w.heap.size s.cur) (kall_below HB2.out (Nat.le_refl _) s.cur); unfold kall at q4; obtain ⟨zf, z0, z1, z2, z3, z4, z5, z6, z7, z8, z9⟩ := cbox0_cellsE HZ2.out; have HE : Hid ((kall w2 w.heap.size s.cur).heap[w.heap.size]? = some (.cells #[.int .i64 s.cur.row, .int .i64 s.cur.col, .bool s.cur.wrap, .int .i64 s.cur.a.fg, .int .i64 s.cur.a.bg, .int .i64 s.cur.a.flags, .int .i64 s.cur.g0, .int .i64 s.cur.g1, .int .i64 s.cur.shift, .bool s.cur.origin] 33 (0, 0)) ∧ Below w.heap.size w (kall w2 w.heap.size s.cur)) := Lib.hid ⟨kall_box HZ2.out s.cur, kall_below HB2.out (Nat.le_refl _) s.cur⟩; clear hb)
        | (go_at_call 174; refine (HLN.out w.drew (H1.out.kept (Below.refl _ _).drew)).mono ?_; rintro e w2 ⟨c', rfl, hb⟩; have HB2 : Hid (Below w.heap.size w w2) := Lib.hid ((Below.refl _ _).drew.trans hb); have q3 := HQ.out w2 HB2.out; have q5 := HQ.out (w2.alloc cbox0) (HB2.out.trans ((bel_alloc w2 _).mono HB2.out.size)); have q6 := HQ.out (w2.alloc (ekbx s.cur)) (HB2.out.trans ((bel_alloc w2 _).mono HB2.out.size)); have HE : Hid ((w2.alloc (ekbx s.cur)).heap[w2.heap.size]? = some (ekbx s.cur) ∧ Below w.heap.size w (w2.alloc (ekbx s.cur))) := Lib.hid ⟨heap_alloc_new _ _, HB2.out.trans ((bel_alloc w2 _).mono HB2.out.size)⟩; clear hb)))
    all_goals
      go_wp2_with fail
      go_meet
      exact ⟨_, _, rfl, rfl, Lib.hid HE.out.1, Lib.hid HE.out.2⟩
  case rest =>
  obtain ⟨b4, c', rfl, rfl, HK, HB2⟩ := hcut
  rename World => w2
  have H2 := Lib.hid (H1.out.kept HB2.out)
  clear HQ H1
  have d1 : w2.cell? ⟨b4, 1, none⟩ = some (.int .i64 s.cur.col) := Blk.cell HK.out 1
  have d3 : w2.cell? ⟨b4, 3, none⟩ = some (.int .i64 s.cur.a.fg) := Blk.cell HK.out 3
  have d4 : w2.cell? ⟨b4, 4, none⟩ = some (.int .i64 s.cur.a.bg) := Blk.cell HK.out 4
  have d5 : w2.cell? ⟨b4, 5, none⟩ = some (.int .i64 s.cur.a.flags) := Blk.cell HK.out 5
  have hcol : (s.cur.col.toNat : Int) = s.cur.col := by have := F.out.col0; omega
  have hck : s.cur.col.toNat ≤ (lineS s).length := by rw [L.out.len]; have := L.out.cI; have := F.out.col1; omega
  have hrm : roomN s m = min m ((lineS s).length - s.cur.col.toNat) := by unfold roomN; rw [L.out.len]
  have HML : Hid ((insertOf (lineS s) s.cur.col.toNat (roomN s m) s.cur.a).length = (seenG s).cols.toNat) := Lib.hid (by
    have q := insertOk (l := lineS s) (p := s.cur.col.toNat) (n := roomN s m) L.out.ok F.out.a (by rw [hrm]; omega)
    rw [q.2, L.out.len])
  have HPT : Hid (∀ W, Pn W b base s x y z → _) := Lib.hid fun W k => insert_fits (lineS s) s.cur.a s.cur.col.toNat m (roomN s m) hrm (.slice (some ⟨g, lineAt s * 6, none⟩) (seenG s).cols.toNat c') W (k.line HXX.out L.out c') L.out.held (by rw [L.out.len]; have := L.out.c40; omega) L.out.ok F.out.a hck hm
  rw [hcol] at HPT
  have HMM : Hid (withLine s (insertOf (lineS s) s.cur.col.toNat (roomN s m) s.cur.a) = insertS s m) := Lib.hid rfl
  clear hcol hck hrm hm1 hm
  generalize insertOf (lineS s) s.cur.col.toNat (roomN s m) s.cur.a = q at HPT HML HMM
  go_wp2_with fail
  refine (HPT.out w2 H2.out).mono ?_; rintro e w4 ⟨v, rfl, ho, hb⟩
  have H4 := Lib.hid (H2.out.kept hb)
  have HO4 := Lib.hid ho
  have HA4 := Lib.hid (HB2.out.trans (hb.mono HB2.out.size))
  clear ho hb d1 d3 d4 d5 H2 HPT HLN
  have hC1 := L.out.c1
  rcases HO4.out.shape with ⟨_, e0⟩ | ⟨g2, cap2, e0, _, _⟩
  · have := HML.out; rw [e0] at this; simp at this; omega
  rw [HML.out] at e0
  subst e0
  have HSR := Lib.hid (HO4.out.cs.flat.2)
  obtain ⟨w6, hrun, ho6, hon6, hb6⟩ := run_copy_into (ty := 3) (k := lineAt s) (dCap := c') (sCap := cap2) (H4.out.cells HXX.out) HML.out L.out.fit HSR.out
  have H6 := Lib.hid (H4.out.over HAP.out HXX.out ho6 hon6 hon6.1)
  have HB6 := Lib.hid (hb6 base w (HA4.out.mono HUP.out) ((H4.out.cells HXX.out).lt g rfl).1)
  clear ho6 hon6 hb6 H4 HO4 HA4 HSR HML
  go_wp2_with fail
  go_end0
  rw [← HMM.out]
  exact ⟨rfl, H6.out, HB6.out⟩
theorem edPush_any (s : S) (x y z : Value) (b base : Nat) (n : Int) (w : World) (h : Pn w b base s x y z) (hap : Apart x y) (hok : Ok s) (hn : n ≠ 0) (hl : -9999 ≤ n) (hh : n ≤ 9999) :
    Calls Tryz.prog 141 #[.pointer (some ⟨b, 0, none⟩), .int .i64 n] w fun e w' => e = .returned (.tuple #[]) ∧ Pn w' b base (pushS s n) x y z ∧ Below base w w' := by
  unfold pushS
  by_cases hc : n < 0
  · rw [if_pos hc]
    exact edPush_del s x y z b base n (-n).toNat w h hap hok (by omega) (by omega) (by omega)
  · rw [if_neg hc]
    exact edPush_ins s x y z b base n n.toNat w h hap hok (by omega) (by omega) (by omega)
end Scr
end
section
open Go.RowKit
namespace Scr
open Go.Proofs.YtceaoadlhdgnmaaGreatDoor.Row Wid
abbrev wpbx (lo hi : Int) : Obj := .cells #[.int .i64 lo, .int .i64 hi] 152 (0, 0)
theorem seenX_putG (s : S) (G : Gr) (x y : Value) : seenX (putG s G) x y = seenX s x y := by
  unfold seenX putG
  cases h : s.swapped with
  | false => simp
  | true => simp
set_option maxHeartbeats 6400000 in
theorem edErase_any (s : S) (x y z : Value) (b base : Nat) (lo hi : Int) (w : World) (h : Pn w b base s x y z) (hap : Apart x y) (hok : Ok s) (hl0 : 0 ≤ lo) (hl1 : lo ≤ 4000) (hh0 : 0 ≤ hi) (hh1 : hi ≤ 4000) :
    Calls Tryz.prog 140 #[.pointer (some ⟨b, 0, none⟩), .agg #[.int .i64 lo, .int .i64 hi]] w fun e w' => e = .returned (.tuple #[]) ∧ Pn w' b base (wipeS s lo hi) x y z ∧ Below base w w' := by
  obtain ⟨g, n0, cap, hX⟩ := seenX_some h hok.facts.g
  have F := Lib.hid hok.facts
  have HAP := Lib.hid hap
  have HUP := Lib.hid h.up
  have HA0 := Lib.hid (bel_alloc w (wpbx lo hi))
  have HB0 : Hid ((w.alloc (wpbx lo hi)).heap[w.heap.size]? = some (wpbx lo hi)) := Lib.hid (heap_alloc_new _ _)
  have H0 := Lib.hid (h.kept HA0.out)
  have HSE := Lib.hid (edSeen_bel s x y z b (seatO s) rfl _ H0.out.box)
  have HXG : Hid (∀ G, seenX (putG s G) x y = .slice (some ⟨g, 0, none⟩) n0 cap) := Lib.hid fun G => (seenX_putG s G x y).trans hX
  have hRR := F.out.gr
  have hr1 := F.out.r1
  have hr40 := F.out.r40
  obtain ⟨R, hR⟩ : ∃ R : Nat, s.main.rows = (R : Int) := ⟨s.main.rows.toNat, by omega⟩
  have hR40 : R ≤ 40 := by omega
  have HRW : Hid (wipeS s lo hi = putG s (wipeN lo hi s.cur.a R (seenG s))) := Lib.hid (by unfold wipeS; rw [hR]; rfl)
  have hgr : (seenG s).rows = (R : Int) := by rw [hRR, hR]
  have HGR := Lib.hid hgr
  have HS0 : Hid (putG s (wipeN lo hi s.cur.a 0 (seenG s)) = s) := Lib.hid (putG_self s)
  obtain ⟨C, hC⟩ : ∃ C : Nat, (seenG s).cols = (C : Int) := ⟨(seenG s).cols.toNat, by have := F.out.gc; have := F.out.c1; omega⟩
  have HC := Lib.hid hC
  have hC40 : C ≤ 40 := by have := F.out.gc; have := F.out.c40; omega
  have HGB : Hid (∀ k, k ≤ R → gridB (wipeN lo hi s.cur.a k (seenG s)) = true ∧ (wipeN lo hi s.cur.a k (seenG s)).rows = (R : Int) ∧ (wipeN lo hi s.cur.a k (seenG s)).cols = (C : Int)) := Lib.hid fun k hk =>
    ⟨wipeN_ok F.out.a lo hi k _ F.out.g (by omega), by rw [(wipeN_sides lo hi s.cur.a k (seenG s)).1]; exact hgr, by rw [(wipeN_sides lo hi s.cur.a k (seenG s)).2]; exact hC⟩
  have c0 : (w.alloc (wpbx lo hi)).cell? ⟨b, seatO s, none⟩ = some (.int .i64 (R : Int)) := by rw [H0.out.box.cell, ← hgr]; exact (seat_arr s x y z).1
  rw [HRW.out]
  obtain ⟨a, ha⟩ : ∃ a, s.cur.a = a := ⟨_, rfl⟩
  have HAA := Lib.hid ha
  rw [ha] at HS0 HGB ⊢
  clear ha h hap hX hok hRR hr1 hgr hR hC HRW
  go_enter Tryz.func140, Tryz.ntmps140
  go_wp2_with fail
  refine HSE.out.mono ?_; rintro e w1 ⟨rfl, hb⟩
  have H1 := Lib.hid (H0.out.kept hb)
  have HB1 := Lib.hid (Blk.kept HB0.out hb)
  have HA1 := Lib.hid (HA0.out.trans (hb.mono HA0.out.size))
  have c1 : w1.cell? ⟨b, seatO s, none⟩ = some (.int .i64 (R : Int)) := cell_kept hb c0
  clear hb c0 H0 HB0 HA0 HSE
  go_wp2_with fail
  clear c1
  go_loopw [16] (fun j wr => ∃ i : Nat, i ≤ R ∧ j = .int .i64 i ∧ Hid (Pn wr b base (putG s (wipeN lo hi a i (seenG s))) x y z) ∧ Hid (wr.heap[w.heap.size]? = some (wpbx lo hi)) ∧ Hid (Below base w wr)) (fun j _ => R - (intOf j).toNat)
  case atStart => exact ⟨0, by omega, rfl, by rw [HS0.out]; exact H1, HB1, Lib.hid (HA1.out.mono HUP.out)⟩
  case round =>
    clear H1 HB1 HA1
    obtain ⟨i, hi0, rfl, HP, HBX, HBL⟩ := hrel
    by_cases hlt : i < R
    · obtain ⟨hg, hr, hc⟩ := HGB.out i (by omega)
      have HNX : Hid (wipeN lo hi a (i + 1) (seenG s) = wipeRow lo hi a (wipeN lo hi a i (seenG s)) i) := Lib.hid rfl
      generalize wipeN lo hi a i (seenG s) = Gi at hg hr hc HNX HP
      have hiR : (i : Int) < Gi.rows := by rw [hr]; omega
      have L := Lib.hid (rowF hg hiR)
      have HCN : Hid (Gi.cols.toNat = C) := Lib.hid (by rw [hc]; rfl)
      have HLN : Hid (Calls Tryz.prog 174 #[.pointer (some ⟨b, 0, none⟩), .int .i64 i] wr fun e w' => ∃ c', e = .returned (.slice (some ⟨g, i * C * 6, none⟩) C c') ∧ Below wr.heap.size wr w') := Lib.hid (by
        have q := edLine_at (putG s Gi) x y z b base g n0 cap i wr (HXG.out _) HP.out (by rw [seenG_putG]; exact hg) (by rw [seenG_putG]; exact hiR)
        rw [seenG_putG, HCN.out] at q
        exact q)
      have HPC : Hid (∀ W, Pn W b base (putG s Gi) x y z → W.cell? ⟨b, 10, none⟩ = some (.int .i64 a.fg) ∧ W.cell? ⟨b, 11, none⟩ = some (.int .i64 a.bg) ∧ W.cell? ⟨b, 12, none⟩ = some (.int .i64 a.flags)) := Lib.hid fun W k => by
        have e : (putG s Gi).cur.a = a := by rw [putG_wrap]; exact HAA.out
        exact ⟨by have q := k.box.cell 10; rw [← e]; exact q, by have q := k.box.cell 11; rw [← e]; exact q, by have q := k.box.cell 12; rw [← e]; exact q⟩
      obtain ⟨B, hB⟩ : ∃ B, i * C = B := ⟨_, rfl⟩
      have hB2 : (i : Int) * (C : Int) = (B : Int) := by rw [← Int.natCast_mul, hB]
      have hBs : B ≤ 1600 := by have := L.out.small; rw [HCN.out, hB] at this; exact this
      have hw1 : IntKind.i64.wrap ((i : Int) * (C : Int)) = (B : Int) := by rw [hB2, IntKind.wrap_i64]; omega
      have hw2 : IntKind.i64.wrap (lo - (B : Int)) = lo - (B : Int) := by rw [IntKind.wrap_i64]; omega
      have hw3 : IntKind.i64.wrap (hi - (B : Int)) = hi - (B : Int) := by rw [IntKind.wrap_i64]; omega
      have hlC : loC lo Gi.cols i = max (lo - (B : Int)) 0 := by unfold loC; rw [hc, hB2]
      have hhC : hiC hi Gi.cols i = min (hi - (B : Int)) (C : Int) := by unfold hiC; rw [hc, hB2]
      obtain ⟨l', hl'⟩ : ∃ l', max (lo - (B : Int)) 0 = l' := ⟨_, rfl⟩
      obtain ⟨h', hh'⟩ : ∃ h', min (hi - (B : Int)) (C : Int) = h' := ⟨_, rfl⟩
      rw [hl'] at hlC
      rw [hh'] at hhC
      have hl'0 : 0 ≤ l' := by omega
      have hh'C : h' ≤ (C : Int) := by omega
      have HWR : Hid (wipeRow lo hi a Gi i = if l' < h' then withRow Gi i (eraseL (rowG Gi i) l'.toNat h'.toNat a) else Gi) := Lib.hid (by unfold wipeRow; rw [hlC, hhC])
      rw [hB] at HLN
      clear hlC hhC hr hiR
      have HUB : Hid (base ≤ wr.heap.size) := Lib.hid HP.out.up
      go_wp2_with fail
      refine HLN.out.mono ?_; rintro e w2 ⟨c', rfl, hb⟩
      have HP1 := Lib.hid (HP.out.kept hb)
      have HBX1 := Lib.hid (Blk.kept HBX.out hb)
      have HBL1 := Lib.hid (HBL.out.trans (hb.mono HUB.out))
      have b0 : w2.cell? ⟨w.heap.size, 0, none⟩ = some (.int .i64 lo) := Blk.cell HBX1.out 0
      have b1 : w2.cell? ⟨w.heap.size, 1, none⟩ = some (.int .i64 hi) := Blk.cell HBX1.out 1
      clear hb HP HBX HBL HLN
      go_upto_region 6 with (fail)
      go_cut [7, 8] from 26 to 37 (fun s7 s8 wx => s7 = .int .i64 l' ∧ s8 = .int .i64 h' ∧ Hid (Pn wx b base (putG s Gi) x y z) ∧ Hid (wx.heap[w.heap.size]? = some (wpbx lo hi)) ∧ Hid (Below base w wx))
      case first =>
        go_region
        all_goals
          go_wp2_with fail
          go_meet
          exact ⟨by first | rfl | rw [hl'], by first | rfl | rw [hh'], Lib.hid (HP1.out.kept (by first | exact Below.refl _ _ | exact (Below.refl _ _).drew | exact bel_drewN _ _)), Lib.hid (Blk.kept HBX1.out (by first | exact Below.refl _ _ | exact (Below.refl _ _).drew | exact bel_drewN _ _)), Lib.hid (HBL1.out.trans (Below.mono (by first | exact Below.refl _ _ | exact (Below.refl _ _).drew | exact bel_drewN _ _) HP1.out.up))⟩
      case rest =>
      obtain ⟨rfl, rfl, HP2, HBX2, HBL2⟩ := hcut
      clear HP1 HBX1 HBL1 b0 b1 w2
      rename World => w2
      clear hl' hh' hw1 hw2 hw3
      by_cases hlt2 : l' < h'
      · have HWE : Hid (wipeN lo hi a (i + 1) (seenG s) = withRow Gi i (eraseL (rowG Gi i) l'.toNat h'.toNat a)) := Lib.hid (by rw [HNX.out, HWR.out, if_pos hlt2])
        have hd : decide (l' < h') = true := decide_eq_true hlt2
        have hlow : ((l'.toNat : Nat) : Int) = l' := by omega
        have hhigh : ((h'.toNat : Nat) : Int) = h' := by omega
        have HER : Hid (Calls Tryz.prog 175 #[.slice (some ⟨g, B * 6, none⟩) C c', .int .i64 l', .int .i64 h', .agg #[.int .i64 a.fg, .int .i64 a.bg, .int .i64 a.flags]] w2 fun e w' => ∃ v, e = .returned (.tuple #[v, .int .i64 0]) ∧ OwnCs w' w2.heap.size v (eraseL (rowG Gi i) l'.toNat h'.toNat a) ∧ Below w2.heap.size w2 w') := Lib.hid (by
          have hcs := HP2.out.rowE (i := i) (HXG.out _) (by rw [seenG_putG]; exact L.out) c'
          rw [seenG_putG, HCN.out, hB] at hcs
          have q := erase_fits (rowG Gi i) a l'.toNat h'.toNat _ w2 hcs L.out.held (by rw [L.out.len, HCN.out]; omega) L.out.ok (by rw [← HAA.out]; exact F.out.a) (by omega) (by rw [L.out.len, HCN.out]; omega)
          rw [hlow, hhigh] at q
          exact q)
        have HML : Hid ((eraseL (rowG Gi i) l'.toNat h'.toNat a).length = C) := Lib.hid (erase_row L.out.ok (by rw [L.out.len, HCN.out]) (by rw [← HAA.out]; exact F.out.a) (by omega) (by omega)).2
        generalize eraseL (rowG Gi i) l'.toNat h'.toNat a = m at HER HML HWE
        obtain ⟨k10, k11, k12⟩ := HPC.out w2 HP2.out
        have hfit : B + C ≤ Gi.cells.length := by have := L.out.fit; rw [HCN.out, hB] at this; exact this
        have hC1 : 1 ≤ C := by have := L.out.c1; rw [HCN.out] at this; exact this
        clear hlow hhigh hlt2
        go_wp2_with fail
        refine HER.out.mono ?_; rintro e w4 ⟨v, rfl, ho, hb⟩
        have H4 := Lib.hid (HP2.out.kept hb)
        have HX4 := Lib.hid (Blk.kept HBX2.out hb)
        have HO4 := Lib.hid ho
        have HA4 := Lib.hid (HBL2.out.trans (hb.mono HP2.out.up))
        clear ho hb k10 k11 k12 HP2 HBX2 HBL2 HER
        rcases HO4.out.shape with ⟨_, e0⟩ | ⟨g2, cap2, e0, _, _⟩
        · have := HML.out; rw [e0] at this; simp at this; omega
        rw [HML.out] at e0
        subst e0
        have HSR := Lib.hid (HO4.out.cs.flat.2)
        have hcl := H4.out.cells (HXG.out Gi)
        rw [seenG_putG] at hcl
        obtain ⟨w6, hrun, ho6, hon6, hb6⟩ := run_copy_into (ty := 3) (k := B) (dCap := c') (sCap := cap2) hcl HML.out hfit HSR.out
        have H6 : Hid (Pn w6 b base (putG s (wipeN lo hi a (i + 1) (seenG s))) x y z) := Lib.hid (by
          have q := H4.out.over HAP.out (HXG.out Gi) ho6 hon6 hon6.1
          rw [putG_putG, seenG_putG] at q
          rw [HWE.out]
          have e : withRow Gi i m = { Gi with cells := overL Gi.cells B m } := by unfold withRow; rw [HCN.out, hB]
          rw [e]
          exact q)
        have HX6 : Hid (w6.heap[w.heap.size]? = some (wpbx lo hi)) := Lib.hid (hon6.2 _ _ (by
          intro e
          have := (hcl.lt g rfl)
          rcases hcl.shape with ⟨q, _⟩ | ⟨g3, cap3, q, _⟩
          · injection q with q; cases q
          · have hgg := hcl.2
            rcases hgg with ⟨q, _⟩ | ⟨g', cap', cur, q, hb', hg', _⟩
            · injection q with q; cases q
            · injection q with q1
              injection q1 with q1
              injection q1 with q1
              subst q1
              rw [← e, HX4.out] at hg'
              injection hg' with hg'
              injection hg' with _ hg' _
              exact absurd hg' (by decide)) HX4.out)
        have HB6 := Lib.hid (hb6 base w HA4.out (hcl.lt g rfl).1)
        clear ho6 hon6 hb6 H4 HO4 HA4 HSR HML hcl hfit HWE
        go_wp2_with fail
        go_roundw
        case rel => exact ⟨i + 1, by omega, by go_num, H6, HX6, HB6⟩
        case measure => simp [intOf]; omega
      · have HWE : Hid (wipeN lo hi a (i + 1) (seenG s) = Gi) := Lib.hid (by rw [HNX.out, HWR.out, if_neg hlt2])
        have hd : decide (l' < h') = false := decide_eq_false hlt2
        go_wp2_with fail
        go_roundw
        case rel => exact ⟨i + 1, by omega, by go_num, by rw [HWE.out]; exact HP2, HBX2, HBL2⟩
        case measure => simp [intOf]; omega
    · obtain rfl : i = R := by omega
      go_wp2_with fail
      go_end0
      exact ⟨rfl, HP.out, HBL.out⟩
end Scr
end
section
open Go.RowKit
namespace Scr
open Go.Proofs.YtceaoadlhdgnmaaGreatDoor.Row
def deedV : Deed → Value
  | .wipe lo hi => .iface 152 (.agg #[.int .i64 lo, .int .i64 hi])
  | .shift n => .iface 155 (.int .i64 n)
  | .lines n => .iface 157 (.int .i64 n)
  | .scroll n => .iface 148 (.int .i64 n)
set_option maxHeartbeats 800000 in
theorem wiped_any (a f e n : Int) (w : World) (h0 : 0 ≤ a) (h1 : a ≤ 2000) :
    Calls Tryz.prog 143 #[.int .i64 a, .int .i64 f, .int .i64 e, .int .i64 n] w fun r w' => r = .returned (.agg #[.int .i64 (wipedR a f e n).1, .int .i64 (wipedR a f e n).2]) ∧ Below w.heap.size w w' := by
  have hw : IntKind.i64.wrap (a + 1) = a + 1 := by rw [IntKind.wrap_i64]; omega
  by_cases c1 : n = -1
  · subst c1
    have HE : Hid (wipedR a f e (-1) = (a, e)) := Lib.hid (by unfold wipedR; rw [if_pos (.inl rfl)])
    rw [HE.out]
    go_enter Tryz.func143, Tryz.ntmps143
    go_wp2_with fail
    have HX := heap_alloc_new w (.cells #[.int .i64 a, .int .i64 e] 152)
    have z0 : (w.alloc (.cells #[.int .i64 a, .int .i64 e] 152)).cell? ⟨w.heap.size, 0, none⟩ = some (.int .i64 a) := Blk.cell HX 0
    have z1 : (w.alloc (.cells #[.int .i64 a, .int .i64 e] 152)).cell? ⟨w.heap.size, 1, none⟩ = some (.int .i64 e) := Blk.cell HX 1
    exact bodyPost_ret (v := .agg #[.int .i64 a, .int .i64 e]) (by simp [results, Tryz.results143, go_sem, z0, z1]) rfl ⟨rfl, bel_alloc w _⟩
  by_cases c2 : n = 0
  · subst c2
    have HE : Hid (wipedR a f e 0 = (a, e)) := Lib.hid (by unfold wipedR; rw [if_pos (.inr rfl)])
    rw [HE.out]
    go_enter Tryz.func143, Tryz.ntmps143
    go_wp2_with fail
    have HX := heap_alloc_new w (.cells #[.int .i64 a, .int .i64 e] 152)
    have z0 : (w.alloc (.cells #[.int .i64 a, .int .i64 e] 152)).cell? ⟨w.heap.size, 0, none⟩ = some (.int .i64 a) := Blk.cell HX 0
    have z1 : (w.alloc (.cells #[.int .i64 a, .int .i64 e] 152)).cell? ⟨w.heap.size, 1, none⟩ = some (.int .i64 e) := Blk.cell HX 1
    exact bodyPost_ret (v := .agg #[.int .i64 a, .int .i64 e]) (by simp [results, Tryz.results143, go_sem, z0, z1]) rfl ⟨rfl, bel_alloc w _⟩
  by_cases c3 : n = 1
  · subst c3
    have HE : Hid (wipedR a f e 1 = (f, a + 1)) := Lib.hid (by unfold wipedR; rw [if_neg (by omega), if_pos rfl])
    rw [HE.out]
    go_enter Tryz.func143, Tryz.ntmps143
    go_wp2_with fail
    have HX := heap_alloc_new w (.cells #[.int .i64 f, .int .i64 (a + 1)] 152)
    have z0 : (w.alloc (.cells #[.int .i64 f, .int .i64 (a + 1)] 152)).cell? ⟨w.heap.size, 0, none⟩ = some (.int .i64 f) := Blk.cell HX 0
    have z1 : (w.alloc (.cells #[.int .i64 f, .int .i64 (a + 1)] 152)).cell? ⟨w.heap.size, 1, none⟩ = some (.int .i64 (a + 1)) := Blk.cell HX 1
    exact bodyPost_ret (v := .agg #[.int .i64 f, .int .i64 (a + 1)]) (by simp [results, Tryz.results143, go_sem, z0, z1]) rfl ⟨rfl, bel_alloc w _⟩
  by_cases c4 : n = 2
  · subst c4
    have HE : Hid (wipedR a f e 2 = (f, e)) := Lib.hid (by unfold wipedR; rw [if_neg (by omega), if_neg (by omega), if_pos rfl])
    rw [HE.out]
    go_enter Tryz.func143, Tryz.ntmps143
    go_wp2_with fail
    have HX := heap_alloc_new w (.cells #[.int .i64 f, .int .i64 e] 152)
    have z0 : (w.alloc (.cells #[.int .i64 f, .int .i64 e] 152)).cell? ⟨w.heap.size, 0, none⟩ = some (.int .i64 f) := Blk.cell HX 0
    have z1 : (w.alloc (.cells #[.int .i64 f, .int .i64 e] 152)).cell? ⟨w.heap.size, 1, none⟩ = some (.int .i64 e) := Blk.cell HX 1
    exact bodyPost_ret (v := .agg #[.int .i64 f, .int .i64 e]) (by simp [results, Tryz.results143, go_sem, z0, z1]) rfl ⟨rfl, bel_alloc w _⟩
  have HE : Hid (wipedR a f e n = (0, 0)) := Lib.hid (by unfold wipedR; rw [if_neg (by omega), if_neg c3, if_neg c4])
  have e1 : (n == -1) = false := by rw [beq_eq_false_iff_ne]; exact c1
  have e2 : (n == 0) = false := by rw [beq_eq_false_iff_ne]; exact c2
  have e3 : (n == 1) = false := by rw [beq_eq_false_iff_ne]; exact c3
  have e4 : (n == 2) = false := by rw [beq_eq_false_iff_ne]; exact c4
  rw [HE.out]
  clear c1 c2 c3 c4
  go_enter Tryz.func143, Tryz.ntmps143
  go_wp2_with fail
  have HX := heap_alloc_new w (.cells #[.int .i64 0, .int .i64 0] 152)
  have z0 : (w.alloc (.cells #[.int .i64 0, .int .i64 0] 152)).cell? ⟨w.heap.size, 0, none⟩ = some (.int .i64 0) := Blk.cell HX 0
  have z1 : (w.alloc (.cells #[.int .i64 0, .int .i64 0] 152)).cell? ⟨w.heap.size, 1, none⟩ = some (.int .i64 0) := Blk.cell HX 1
  exact bodyPost_ret (v := .agg #[.int .i64 0, .int .i64 0]) (by simp [results, Tryz.results143, go_sem, z0, z1]) rfl ⟨rfl, bel_alloc w _⟩
theorem mul_small {a b : Int} (h0 : 0 ≤ a) (h1 : a ≤ 40) (h2 : 0 ≤ b) (h3 : b ≤ 40) : 0 ≤ a * b ∧ a * b ≤ 1600 := by
  obtain ⟨p, rfl⟩ := Int.eq_ofNat_of_zero_le h0
  obtain ⟨q, rfl⟩ := Int.eq_ofNat_of_zero_le h2
  have := Nat.mul_le_mul (show p ≤ 40 by omega) (show q ≤ 40 by omega)
  constructor
  · exact Int.mul_nonneg h0 h2
  · rw [← Int.natCast_mul]; omega
set_option maxHeartbeats 1600000 in
theorem deed_J (s : S) (x y z : Value) (n : Int) (w : World) (f : Facts s) :
    Calls Tryz.prog 103 #[sv s x y z, .int .i64 74, .int .i64 n] w fun e w' => e = .returned (deedV (deedL s 74 n)) ∧ Below w.heap.size w w' := by
  have HG : Hid (deedV (deedL s 74 n) = .iface 152 (.agg #[.int .i64 (wipedR (atI s) 0 (s.main.rows * s.main.cols) n).1, .int .i64 (wipedR (atI s) 0 (s.main.rows * s.main.cols) n).2])) := Lib.hid rfl
  rw [HG.out]
  have hs1 := mul_small f.row0 (by have := f.row1; have := f.r40; omega) (by have := f.c1; omega) f.c40
  have hs2 := mul_small (a := s.main.rows) (by have := f.r1; omega) f.r40 (by have := f.c1; omega) f.c40
  have hA : atI s = s.cur.row * s.main.cols + s.cur.col := rfl
  have hc0 := f.col0
  have hc1 := f.col1
  have hc2 := f.c40
  obtain ⟨B, hB⟩ : ∃ B, s.cur.row * s.main.cols = B := ⟨_, rfl⟩
  obtain ⟨E, hE⟩ : ∃ E, s.main.rows * s.main.cols = E := ⟨_, rfl⟩
  obtain ⟨A, hAA⟩ : ∃ A, atI s = A := ⟨_, rfl⟩
  rw [hB] at hs1 hA
  rw [hE] at hs2
  rw [hAA] at hA
  have hw1 : IntKind.i64.wrap (s.cur.row * s.main.cols) = B := by rw [hB, IntKind.wrap_i64]; omega
  have hw2 : IntKind.i64.wrap (B + s.cur.col) = A := by rw [IntKind.wrap_i64]; omega
  obtain ⟨c, hc⟩ : ∃ c, max n 1 = c := ⟨_, rfl⟩
  have hw3 : IntKind.i64.wrap (s.main.rows * s.main.cols) = E := by rw [hE, IntKind.wrap_i64]; omega
  have HWP := Lib.hid (wiped_any A 0 E n (w.alloc (.cells (sarr s x y z) 36)) (by omega) (by omega))
  simp only [hE, hAA]
  have H1 : Hid (SBox (w.alloc (.cells (sarr s x y z) 36)) w.heap.size s x y z) := Lib.hid (SBox.new w s x y z)
  have HB1 : Hid (Below w.heap.size w (w.alloc (.cells (sarr s x y z) 36))) := Lib.hid (bel_alloc w _)
  clear f hs1 hs2 hA hc0 hc1 hc2 hB hE hAA HG
  go_enter Tryz.func103, Tryz.ntmps103
  go_upto_region 1 with (fail)
  change Code.wp _ _ _ _ (w.alloc (.cells (sarr s x y z) 36))
  generalize w.alloc (.cells (sarr s x y z) 36) = w1 at H1 HB1 HWP ⊢
  have c1 : ∀ j, w1.cell? ⟨w.heap.size, j, none⟩ = (sarr s x y z)[j]? := H1.out.cell
  go_wp2_with fail
  refine HWP.out.mono ?_; rintro e w2 ⟨rfl, hb⟩
  have HB2 := Lib.hid (HB1.out.trans (hb.mono HB1.out.size))
  clear hb
  go_wp2_with fail
  go_ret
  exact ⟨rfl, HB2.out⟩
set_option maxHeartbeats 1600000 in
theorem deed_K (s : S) (x y z : Value) (n : Int) (w : World) (f : Facts s) :
    Calls Tryz.prog 103 #[sv s x y z, .int .i64 75, .int .i64 n] w fun e w' => e = .returned (deedV (deedL s 75 n)) ∧ Below w.heap.size w w' := by
  have HG : Hid (deedV (deedL s 75 n) = .iface 152 (.agg #[.int .i64 (wipedR (atI s) (s.cur.row * s.main.cols) (s.cur.row * s.main.cols + s.main.cols) n).1, .int .i64 (wipedR (atI s) (s.cur.row * s.main.cols) (s.cur.row * s.main.cols + s.main.cols) n).2])) := Lib.hid rfl
  rw [HG.out]
  have hs1 := mul_small f.row0 (by have := f.row1; have := f.r40; omega) (by have := f.c1; omega) f.c40
  have hs2 := mul_small (a := s.main.rows) (by have := f.r1; omega) f.r40 (by have := f.c1; omega) f.c40
  have hA : atI s = s.cur.row * s.main.cols + s.cur.col := rfl
  have hc0 := f.col0
  have hc1 := f.col1
  have hc2 := f.c40
  obtain ⟨B, hB⟩ : ∃ B, s.cur.row * s.main.cols = B := ⟨_, rfl⟩
  obtain ⟨E, hE⟩ : ∃ E, s.main.rows * s.main.cols = E := ⟨_, rfl⟩
  obtain ⟨A, hAA⟩ : ∃ A, atI s = A := ⟨_, rfl⟩
  rw [hB] at hs1 hA
  rw [hE] at hs2
  rw [hAA] at hA
  have hw1 : IntKind.i64.wrap (s.cur.row * s.main.cols) = B := by rw [hB, IntKind.wrap_i64]; omega
  have hw2 : IntKind.i64.wrap (B + s.cur.col) = A := by rw [IntKind.wrap_i64]; omega
  obtain ⟨c, hc⟩ : ∃ c, max n 1 = c := ⟨_, rfl⟩
  have hw3 : IntKind.i64.wrap (B + s.main.cols) = B + s.main.cols := by rw [IntKind.wrap_i64]; omega
  have HWP := Lib.hid (wiped_any A B (B + s.main.cols) n (w.alloc (.cells (sarr s x y z) 36)) (by omega) (by omega))
  simp only [hB, hAA]
  have H1 : Hid (SBox (w.alloc (.cells (sarr s x y z) 36)) w.heap.size s x y z) := Lib.hid (SBox.new w s x y z)
  have HB1 : Hid (Below w.heap.size w (w.alloc (.cells (sarr s x y z) 36))) := Lib.hid (bel_alloc w _)
  clear f hs1 hs2 hA hc0 hc1 hc2 hB hE hAA HG
  go_enter Tryz.func103, Tryz.ntmps103
  go_upto_region 1 with (fail)
  change Code.wp _ _ _ _ (w.alloc (.cells (sarr s x y z) 36))
  generalize w.alloc (.cells (sarr s x y z) 36) = w1 at H1 HB1 HWP ⊢
  have c1 : ∀ j, w1.cell? ⟨w.heap.size, j, none⟩ = (sarr s x y z)[j]? := H1.out.cell
  go_wp2_with fail
  refine HWP.out.mono ?_; rintro e w2 ⟨rfl, hb⟩
  have HB2 := Lib.hid (HB1.out.trans (hb.mono HB1.out.size))
  clear hb
  go_wp2_with fail
  go_ret
  exact ⟨rfl, HB2.out⟩
set_option maxHeartbeats 1600000 in
theorem deed_X (s : S) (x y z : Value) (n : Int) (w : World) (f : Facts s) (h1 : -1 ≤ n) (h2 : n ≤ 9999) :
    Calls Tryz.prog 103 #[sv s x y z, .int .i64 88, .int .i64 n] w fun e w' => e = .returned (deedV (deedL s 88 n)) ∧ Below w.heap.size w w' := by
  have HG : Hid (deedV (deedL s 88 n) = .iface 152 (.agg #[.int .i64 (atI s), .int .i64 (min (atI s + max n 1) (s.cur.row * s.main.cols + s.main.cols))])) := Lib.hid rfl
  rw [HG.out]
  have hs1 := mul_small f.row0 (by have := f.row1; have := f.r40; omega) (by have := f.c1; omega) f.c40
  have hs2 := mul_small (a := s.main.rows) (by have := f.r1; omega) f.r40 (by have := f.c1; omega) f.c40
  have hA : atI s = s.cur.row * s.main.cols + s.cur.col := rfl
  have hc0 := f.col0
  have hc1 := f.col1
  have hc2 := f.c40
  obtain ⟨B, hB⟩ : ∃ B, s.cur.row * s.main.cols = B := ⟨_, rfl⟩
  obtain ⟨E, hE⟩ : ∃ E, s.main.rows * s.main.cols = E := ⟨_, rfl⟩
  obtain ⟨A, hAA⟩ : ∃ A, atI s = A := ⟨_, rfl⟩
  rw [hB] at hs1 hA
  rw [hE] at hs2
  rw [hAA] at hA
  have hw1 : IntKind.i64.wrap (s.cur.row * s.main.cols) = B := by rw [hB, IntKind.wrap_i64]; omega
  have hw2 : IntKind.i64.wrap (B + s.cur.col) = A := by rw [IntKind.wrap_i64]; omega
  obtain ⟨c, hc⟩ : ∃ c, max n 1 = c := ⟨_, rfl⟩
  have hw3 : IntKind.i64.wrap (B + s.main.cols) = B + s.main.cols := by rw [IntKind.wrap_i64]; omega
  have hw4 : IntKind.i64.wrap (A + c) = A + c := by rw [IntKind.wrap_i64]; omega
  simp only [hB, hAA, hc]
  have H1 : Hid (SBox (w.alloc (.cells (sarr s x y z) 36)) w.heap.size s x y z) := Lib.hid (SBox.new w s x y z)
  have HB1 : Hid (Below w.heap.size w (w.alloc (.cells (sarr s x y z) 36))) := Lib.hid (bel_alloc w _)
  clear f h1 h2 hs1 hs2 hA hc0 hc1 hc2 hB hE hAA HG
  go_enter Tryz.func103, Tryz.ntmps103
  go_upto_region 1 with (fail)
  change Code.wp _ _ _ _ (w.alloc (.cells (sarr s x y z) 36))
  generalize w.alloc (.cells (sarr s x y z) 36) = w1 at H1 HB1 ⊢
  have c1 : ∀ j, w1.cell? ⟨w.heap.size, j, none⟩ = (sarr s x y z)[j]? := H1.out.cell
  go_wp2_with fail
  go_ret
  exact ⟨rfl, HB1.out⟩
set_option maxHeartbeats 1600000 in
theorem deed_P (s : S) (x y z : Value) (n : Int) (w : World) (f : Facts s) (h1 : -1 ≤ n) (h2 : n ≤ 9999) :
    Calls Tryz.prog 103 #[sv s x y z, .int .i64 80, .int .i64 n] w fun e w' => e = .returned (deedV (deedL s 80 n)) ∧ Below w.heap.size w w' := by
  have HG : Hid (deedV (deedL s 80 n) = .iface 155 (.int .i64 (-(max n 1)))) := Lib.hid rfl
  rw [HG.out]
  have hs1 := mul_small f.row0 (by have := f.row1; have := f.r40; omega) (by have := f.c1; omega) f.c40
  have hs2 := mul_small (a := s.main.rows) (by have := f.r1; omega) f.r40 (by have := f.c1; omega) f.c40
  have hA : atI s = s.cur.row * s.main.cols + s.cur.col := rfl
  have hc0 := f.col0
  have hc1 := f.col1
  have hc2 := f.c40
  obtain ⟨B, hB⟩ : ∃ B, s.cur.row * s.main.cols = B := ⟨_, rfl⟩
  obtain ⟨E, hE⟩ : ∃ E, s.main.rows * s.main.cols = E := ⟨_, rfl⟩
  obtain ⟨A, hAA⟩ : ∃ A, atI s = A := ⟨_, rfl⟩
  rw [hB] at hs1 hA
  rw [hE] at hs2
  rw [hAA] at hA
  have hw1 : IntKind.i64.wrap (s.cur.row * s.main.cols) = B := by rw [hB, IntKind.wrap_i64]; omega
  have hw2 : IntKind.i64.wrap (B + s.cur.col) = A := by rw [IntKind.wrap_i64]; omega
  obtain ⟨c, hc⟩ : ∃ c, max n 1 = c := ⟨_, rfl⟩
  have hw3 : IntKind.i64.wrap (-c) = -c := by rw [IntKind.wrap_i64]; omega
  simp only [hc]
  have H1 : Hid (SBox (w.alloc (.cells (sarr s x y z) 36)) w.heap.size s x y z) := Lib.hid (SBox.new w s x y z)
  have HB1 : Hid (Below w.heap.size w (w.alloc (.cells (sarr s x y z) 36))) := Lib.hid (bel_alloc w _)
  clear f h1 h2 hs1 hs2 hA hc0 hc1 hc2 hB hE hAA HG
  go_enter Tryz.func103, Tryz.ntmps103
  go_upto_region 1 with (fail)
  change Code.wp _ _ _ _ (w.alloc (.cells (sarr s x y z) 36))
  generalize w.alloc (.cells (sarr s x y z) 36) = w1 at H1 HB1 ⊢
  have c1 : ∀ j, w1.cell? ⟨w.heap.size, j, none⟩ = (sarr s x y z)[j]? := H1.out.cell
  go_wp2_with fail
  go_ret
  exact ⟨rfl, HB1.out⟩
set_option maxHeartbeats 1600000 in
theorem deed_At (s : S) (x y z : Value) (n : Int) (w : World) (f : Facts s) :
    Calls Tryz.prog 103 #[sv s x y z, .int .i64 64, .int .i64 n] w fun e w' => e = .returned (deedV (deedL s 64 n)) ∧ Below w.heap.size w w' := by
  have HG : Hid (deedV (deedL s 64 n) = .iface 155 (.int .i64 (max n 1))) := Lib.hid rfl
  rw [HG.out]
  have hs1 := mul_small f.row0 (by have := f.row1; have := f.r40; omega) (by have := f.c1; omega) f.c40
  have hs2 := mul_small (a := s.main.rows) (by have := f.r1; omega) f.r40 (by have := f.c1; omega) f.c40
  have hA : atI s = s.cur.row * s.main.cols + s.cur.col := rfl
  have hc0 := f.col0
  have hc1 := f.col1
  have hc2 := f.c40
  obtain ⟨B, hB⟩ : ∃ B, s.cur.row * s.main.cols = B := ⟨_, rfl⟩
  obtain ⟨E, hE⟩ : ∃ E, s.main.rows * s.main.cols = E := ⟨_, rfl⟩
  obtain ⟨A, hAA⟩ : ∃ A, atI s = A := ⟨_, rfl⟩
  rw [hB] at hs1 hA
  rw [hE] at hs2
  rw [hAA] at hA
  have hw1 : IntKind.i64.wrap (s.cur.row * s.main.cols) = B := by rw [hB, IntKind.wrap_i64]; omega
  have hw2 : IntKind.i64.wrap (B + s.cur.col) = A := by rw [IntKind.wrap_i64]; omega
  obtain ⟨c, hc⟩ : ∃ c, max n 1 = c := ⟨_, rfl⟩
  simp only [hc]
  have H1 : Hid (SBox (w.alloc (.cells (sarr s x y z) 36)) w.heap.size s x y z) := Lib.hid (SBox.new w s x y z)
  have HB1 : Hid (Below w.heap.size w (w.alloc (.cells (sarr s x y z) 36))) := Lib.hid (bel_alloc w _)
  clear f hs1 hs2 hA hc0 hc1 hc2 hB hE hAA HG
  go_enter Tryz.func103, Tryz.ntmps103
  go_upto_region 1 with (fail)
  change Code.wp _ _ _ _ (w.alloc (.cells (sarr s x y z) 36))
  generalize w.alloc (.cells (sarr s x y z) 36) = w1 at H1 HB1 ⊢
  have c1 : ∀ j, w1.cell? ⟨w.heap.size, j, none⟩ = (sarr s x y z)[j]? := H1.out.cell
  go_wp2_with fail
  go_ret
  exact ⟨rfl, HB1.out⟩
set_option maxHeartbeats 1600000 in
theorem deed_L (s : S) (x y z : Value) (n : Int) (w : World) (f : Facts s) :
    Calls Tryz.prog 103 #[sv s x y z, .int .i64 76, .int .i64 n] w fun e w' => e = .returned (deedV (deedL s 76 n)) ∧ Below w.heap.size w w' := by
  have HG : Hid (deedV (deedL s 76 n) = .iface 157 (.int .i64 (max n 1))) := Lib.hid rfl
  rw [HG.out]
  have hs1 := mul_small f.row0 (by have := f.row1; have := f.r40; omega) (by have := f.c1; omega) f.c40
  have hs2 := mul_small (a := s.main.rows) (by have := f.r1; omega) f.r40 (by have := f.c1; omega) f.c40
  have hA : atI s = s.cur.row * s.main.cols + s.cur.col := rfl
  have hc0 := f.col0
  have hc1 := f.col1
  have hc2 := f.c40
  obtain ⟨B, hB⟩ : ∃ B, s.cur.row * s.main.cols = B := ⟨_, rfl⟩
  obtain ⟨E, hE⟩ : ∃ E, s.main.rows * s.main.cols = E := ⟨_, rfl⟩
  obtain ⟨A, hAA⟩ : ∃ A, atI s = A := ⟨_, rfl⟩
  rw [hB] at hs1 hA
  rw [hE] at hs2
  rw [hAA] at hA
  have hw1 : IntKind.i64.wrap (s.cur.row * s.main.cols) = B := by rw [hB, IntKind.wrap_i64]; omega
  have hw2 : IntKind.i64.wrap (B + s.cur.col) = A := by rw [IntKind.wrap_i64]; omega
  obtain ⟨c, hc⟩ : ∃ c, max n 1 = c := ⟨_, rfl⟩
  simp only [hc]
  have H1 : Hid (SBox (w.alloc (.cells (sarr s x y z) 36)) w.heap.size s x y z) := Lib.hid (SBox.new w s x y z)
  have HB1 : Hid (Below w.heap.size w (w.alloc (.cells (sarr s x y z) 36))) := Lib.hid (bel_alloc w _)
  clear f hs1 hs2 hA hc0 hc1 hc2 hB hE hAA HG
  go_enter Tryz.func103, Tryz.ntmps103
  go_upto_region 1 with (fail)
  change Code.wp _ _ _ _ (w.alloc (.cells (sarr s x y z) 36))
  generalize w.alloc (.cells (sarr s x y z) 36) = w1 at H1 HB1 ⊢
  have c1 : ∀ j, w1.cell? ⟨w.heap.size, j, none⟩ = (sarr s x y z)[j]? := H1.out.cell
  go_wp2_with fail
  go_ret
  exact ⟨rfl, HB1.out⟩
set_option maxHeartbeats 1600000 in
theorem deed_M (s : S) (x y z : Value) (n : Int) (w : World) (f : Facts s) (h1 : -1 ≤ n) (h2 : n ≤ 9999) :
    Calls Tryz.prog 103 #[sv s x y z, .int .i64 77, .int .i64 n] w fun e w' => e = .returned (deedV (deedL s 77 n)) ∧ Below w.heap.size w w' := by
  have HG : Hid (deedV (deedL s 77 n) = .iface 157 (.int .i64 (-(max n 1)))) := Lib.hid rfl
  rw [HG.out]
  have hs1 := mul_small f.row0 (by have := f.row1; have := f.r40; omega) (by have := f.c1; omega) f.c40
  have hs2 := mul_small (a := s.main.rows) (by have := f.r1; omega) f.r40 (by have := f.c1; omega) f.c40
  have hA : atI s = s.cur.row * s.main.cols + s.cur.col := rfl
  have hc0 := f.col0
  have hc1 := f.col1
  have hc2 := f.c40
  obtain ⟨B, hB⟩ : ∃ B, s.cur.row * s.main.cols = B := ⟨_, rfl⟩
  obtain ⟨E, hE⟩ : ∃ E, s.main.rows * s.main.cols = E := ⟨_, rfl⟩
  obtain ⟨A, hAA⟩ : ∃ A, atI s = A := ⟨_, rfl⟩
  rw [hB] at hs1 hA
  rw [hE] at hs2
  rw [hAA] at hA
  have hw1 : IntKind.i64.wrap (s.cur.row * s.main.cols) = B := by rw [hB, IntKind.wrap_i64]; omega
  have hw2 : IntKind.i64.wrap (B + s.cur.col) = A := by rw [IntKind.wrap_i64]; omega
  obtain ⟨c, hc⟩ : ∃ c, max n 1 = c := ⟨_, rfl⟩
  have hw3 : IntKind.i64.wrap (-c) = -c := by rw [IntKind.wrap_i64]; omega
  simp only [hc]
  have H1 : Hid (SBox (w.alloc (.cells (sarr s x y z) 36)) w.heap.size s x y z) := Lib.hid (SBox.new w s x y z)
  have HB1 : Hid (Below w.heap.size w (w.alloc (.cells (sarr s x y z) 36))) := Lib.hid (bel_alloc w _)
  clear f h1 h2 hs1 hs2 hA hc0 hc1 hc2 hB hE hAA HG
  go_enter Tryz.func103, Tryz.ntmps103
  go_upto_region 1 with (fail)
  change Code.wp _ _ _ _ (w.alloc (.cells (sarr s x y z) 36))
  generalize w.alloc (.cells (sarr s x y z) 36) = w1 at H1 HB1 ⊢
  have c1 : ∀ j, w1.cell? ⟨w.heap.size, j, none⟩ = (sarr s x y z)[j]? := H1.out.cell
  go_wp2_with fail
  go_ret
  exact ⟨rfl, HB1.out⟩
set_option maxHeartbeats 1600000 in
theorem deed_S (s : S) (x y z : Value) (n : Int) (w : World) (f : Facts s) (h1 : -1 ≤ n) (h2 : n ≤ 9999) :
    Calls Tryz.prog 103 #[sv s x y z, .int .i64 83, .int .i64 n] w fun e w' => e = .returned (deedV (deedL s 83 n)) ∧ Below w.heap.size w w' := by
  have HG : Hid (deedV (deedL s 83 n) = .iface 148 (.int .i64 (-(max n 1)))) := Lib.hid rfl
  rw [HG.out]
  have hs1 := mul_small f.row0 (by have := f.row1; have := f.r40; omega) (by have := f.c1; omega) f.c40
  have hs2 := mul_small (a := s.main.rows) (by have := f.r1; omega) f.r40 (by have := f.c1; omega) f.c40
  have hA : atI s = s.cur.row * s.main.cols + s.cur.col := rfl
  have hc0 := f.col0
  have hc1 := f.col1
  have hc2 := f.c40
  obtain ⟨B, hB⟩ : ∃ B, s.cur.row * s.main.cols = B := ⟨_, rfl⟩
  obtain ⟨E, hE⟩ : ∃ E, s.main.rows * s.main.cols = E := ⟨_, rfl⟩
  obtain ⟨A, hAA⟩ : ∃ A, atI s = A := ⟨_, rfl⟩
  rw [hB] at hs1 hA
  rw [hE] at hs2
  rw [hAA] at hA
  have hw1 : IntKind.i64.wrap (s.cur.row * s.main.cols) = B := by rw [hB, IntKind.wrap_i64]; omega
  have hw2 : IntKind.i64.wrap (B + s.cur.col) = A := by rw [IntKind.wrap_i64]; omega
  obtain ⟨c, hc⟩ : ∃ c, max n 1 = c := ⟨_, rfl⟩
  have hw3 : IntKind.i64.wrap (-c) = -c := by rw [IntKind.wrap_i64]; omega
  simp only [hc]
  have H1 : Hid (SBox (w.alloc (.cells (sarr s x y z) 36)) w.heap.size s x y z) := Lib.hid (SBox.new w s x y z)
  have HB1 : Hid (Below w.heap.size w (w.alloc (.cells (sarr s x y z) 36))) := Lib.hid (bel_alloc w _)
  clear f h1 h2 hs1 hs2 hA hc0 hc1 hc2 hB hE hAA HG
  go_enter Tryz.func103, Tryz.ntmps103
  go_upto_region 1 with (fail)
  change Code.wp _ _ _ _ (w.alloc (.cells (sarr s x y z) 36))
  generalize w.alloc (.cells (sarr s x y z) 36) = w1 at H1 HB1 ⊢
  have c1 : ∀ j, w1.cell? ⟨w.heap.size, j, none⟩ = (sarr s x y z)[j]? := H1.out.cell
  go_wp2_with fail
  go_ret
  exact ⟨rfl, HB1.out⟩
set_option maxHeartbeats 1600000 in
theorem deed_T (s : S) (x y z : Value) (n : Int) (w : World) (f : Facts s) :
    Calls Tryz.prog 103 #[sv s x y z, .int .i64 84, .int .i64 n] w fun e w' => e = .returned (deedV (deedL s 84 n)) ∧ Below w.heap.size w w' := by
  have HG : Hid (deedV (deedL s 84 n) = .iface 148 (.int .i64 (max n 1))) := Lib.hid rfl
  rw [HG.out]
  have hs1 := mul_small f.row0 (by have := f.row1; have := f.r40; omega) (by have := f.c1; omega) f.c40
  have hs2 := mul_small (a := s.main.rows) (by have := f.r1; omega) f.r40 (by have := f.c1; omega) f.c40
  have hA : atI s = s.cur.row * s.main.cols + s.cur.col := rfl
  have hc0 := f.col0
  have hc1 := f.col1
  have hc2 := f.c40
  obtain ⟨B, hB⟩ : ∃ B, s.cur.row * s.main.cols = B := ⟨_, rfl⟩
  obtain ⟨E, hE⟩ : ∃ E, s.main.rows * s.main.cols = E := ⟨_, rfl⟩
  obtain ⟨A, hAA⟩ : ∃ A, atI s = A := ⟨_, rfl⟩
  rw [hB] at hs1 hA
  rw [hE] at hs2
  rw [hAA] at hA
  have hw1 : IntKind.i64.wrap (s.cur.row * s.main.cols) = B := by rw [hB, IntKind.wrap_i64]; omega
  have hw2 : IntKind.i64.wrap (B + s.cur.col) = A := by rw [IntKind.wrap_i64]; omega
  obtain ⟨c, hc⟩ : ∃ c, max n 1 = c := ⟨_, rfl⟩
  simp only [hc]
  have H1 : Hid (SBox (w.alloc (.cells (sarr s x y z) 36)) w.heap.size s x y z) := Lib.hid (SBox.new w s x y z)
  have HB1 : Hid (Below w.heap.size w (w.alloc (.cells (sarr s x y z) 36))) := Lib.hid (bel_alloc w _)
  clear f hs1 hs2 hA hc0 hc1 hc2 hB hE hAA HG
  go_enter Tryz.func103, Tryz.ntmps103
  go_upto_region 1 with (fail)
  change Code.wp _ _ _ _ (w.alloc (.cells (sarr s x y z) 36))
  generalize w.alloc (.cells (sarr s x y z) 36) = w1 at H1 HB1 ⊢
  have c1 : ∀ j, w1.cell? ⟨w.heap.size, j, none⟩ = (sarr s x y z)[j]? := H1.out.cell
  go_wp2_with fail
  go_ret
  exact ⟨rfl, HB1.out⟩
theorem deed_any (s : S) (x y z : Value) (key n : Int) (w : World) (f : Facts s) (hk : ekeyB key = true) (h1 : -1 ≤ n) (h2 : n ≤ 9999) :
    Calls Tryz.prog 103 #[sv s x y z, .int .i64 key, .int .i64 n] w fun e w' => e = .returned (deedV (deedL s key n)) ∧ Below w.heap.size w w' := by
  have hc : key = 74 ∨ key = 75 ∨ key = 88 ∨ key = 80 ∨ key = 64 ∨ key = 76 ∨ key = 77 ∨ key = 83 ∨ key = 84 := by
    unfold ekeyB ekeysL at hk
    simp only [List.any_cons, List.any_nil, Bool.or_false, Bool.or_eq_true, beq_iff_eq] at hk
    omega
  rcases hc with rfl | rfl | rfl | rfl | rfl | rfl | rfl | rfl | rfl
  · exact deed_J s x y z n w f
  · exact deed_K s x y z n w f
  · exact deed_X s x y z n w f h1 h2
  · exact deed_P s x y z n w f h1 h2
  · exact deed_At s x y z n w f
  · exact deed_L s x y z n w f
  · exact deed_M s x y z n w f h1 h2
  · exact deed_S s x y z n w f h1 h2
  · exact deed_T s x y z n w f
end Scr
end
section
open Go.RowKit
namespace Scr
open Go.Proofs.YtceaoadlhdgnmaaGreatDoor.Row Wid
@[go_sem] theorem is_scroll_scroll (v : Value) (w : World) : (Instr.typeAssert (.iface 148 v) 108 148 true).run Tryz.prog w = .ok (.tuple #[v, .bool true]) w := by kernel_rfl
@[go_sem] theorem is_scroll_wipe (v : Value) (w : World) : (Instr.typeAssert (.iface 152 v) 108 148 true).run Tryz.prog w = .ok (.tuple #[.int .i64 0, .bool false]) w := by kernel_rfl
@[go_sem] theorem is_scroll_shift (v : Value) (w : World) : (Instr.typeAssert (.iface 155 v) 108 148 true).run Tryz.prog w = .ok (.tuple #[.int .i64 0, .bool false]) w := by kernel_rfl
@[go_sem] theorem is_scroll_lines (v : Value) (w : World) : (Instr.typeAssert (.iface 157 v) 108 148 true).run Tryz.prog w = .ok (.tuple #[.int .i64 0, .bool false]) w := by kernel_rfl
@[go_sem] theorem is_wipe_wipe (v : Value) (w : World) : (Instr.typeAssert (.iface 152 v) 108 152 true).run Tryz.prog w = .ok (.tuple #[v, .bool true]) w := by kernel_rfl
@[go_sem] theorem is_wipe_shift (v : Value) (w : World) : (Instr.typeAssert (.iface 155 v) 108 152 true).run Tryz.prog w = .ok (.tuple #[.agg #[.int .i64 0, .int .i64 0], .bool false]) w := by kernel_rfl
@[go_sem] theorem is_wipe_lines (v : Value) (w : World) : (Instr.typeAssert (.iface 157 v) 108 152 true).run Tryz.prog w = .ok (.tuple #[.agg #[.int .i64 0, .int .i64 0], .bool false]) w := by kernel_rfl
@[go_sem] theorem is_shift_shift (v : Value) (w : World) : (Instr.typeAssert (.iface 155 v) 108 155 true).run Tryz.prog w = .ok (.tuple #[v, .bool true]) w := by kernel_rfl
@[go_sem] theorem is_shift_lines (v : Value) (w : World) : (Instr.typeAssert (.iface 157 v) 108 155 true).run Tryz.prog w = .ok (.tuple #[.int .i64 0, .bool false]) w := by kernel_rfl
@[go_sem] theorem must_lines (v : Value) (w : World) : (Instr.typeAssert (.iface 157 v) 108 157 false).run Tryz.prog w = .ok v w := by kernel_rfl
def DeedOk : Deed → Prop
  | .wipe lo hi => 0 ≤ lo ∧ lo ≤ 4000 ∧ 0 ≤ hi ∧ hi ≤ 4000
  | .shift n => n ≠ 0 ∧ -9999 ≤ n ∧ n ≤ 9999
  | .lines n => n ≠ 0 ∧ -9999 ≤ n ∧ n ≤ 9999
  | .scroll n => n ≠ 0 ∧ -9999 ≤ n ∧ n ≤ 9999
theorem wipedR_in {a f e n : Int} (h1 : 0 ≤ a) (h2 : a ≤ 1700) (h3 : 0 ≤ f) (h4 : f ≤ 1700) (h5 : 0 ≤ e) (h6 : e ≤ 1700) : 0 ≤ (wipedR a f e n).1 ∧ (wipedR a f e n).1 ≤ 4000 ∧ 0 ≤ (wipedR a f e n).2 ∧ (wipedR a f e n).2 ≤ 4000 := by
  unfold wipedR
  split
  · exact ⟨h1, by omega, h5, by omega⟩
  · split
    · exact ⟨h3, by omega, by show 0 ≤ a + 1; omega, by show a + 1 ≤ 4000; omega⟩
    · split
      · exact ⟨h3, by omega, h5, by omega⟩
      · exact ⟨by decide, by decide, by decide, by decide⟩
theorem deed_ok {s : S} (f : Facts s) (key : Int) {n : Int} (h1 : -1 ≤ n) (h2 : n ≤ 9999) : DeedOk (deedL s key n) := by
  have hs1 := mul_small f.row0 (by have := f.row1; have := f.r40; omega) (by have := f.c1; omega) f.c40
  have hs2 := mul_small (a := s.main.rows) (by have := f.r1; omega) f.r40 (by have := f.c1; omega) f.c40
  have hA : atI s = s.cur.row * s.main.cols + s.cur.col := rfl
  have hc0 := f.col0
  have hc1 := f.col1
  have hc2 := f.c40
  unfold deedL
  split
  · exact wipedR_in (by omega) (by omega) (by omega) (by omega) (by omega) (by omega)
  split
  · exact wipedR_in (by omega) (by omega) (by omega) (by omega) (by omega) (by omega)
  split
  · exact ⟨by omega, by omega, by omega, by omega⟩
  all_goals first
    | exact ⟨by omega, by omega, by omega⟩
    | (split
       · exact ⟨by omega, by omega, by omega⟩
       split
       · exact ⟨by omega, by omega, by omega⟩
       split
       · exact ⟨by omega, by omega, by omega⟩
       split
       · exact ⟨by omega, by omega, by omega⟩
       split
       · exact ⟨by omega, by omega, by omega⟩
       · exact ⟨by omega, by omega, by omega⟩)
set_option maxHeartbeats 3200000 in
theorem edOpen_any (s : S) (x y z : Value) (b base : Nat) (n : Int) (w : World) (h : Pn w b base s x y z) (hok : Ok s) (hn : n ≠ 0) (hl : -9999 ≤ n) (hh : n ≤ 9999) :
    Calls Tryz.prog 142 #[.pointer (some ⟨b, 0, none⟩), .int .i64 n] w fun e w' => e = .returned (.tuple #[]) ∧ ∃ x' y', Pn w' b base (openS s n) x' y' z ∧ Below b w w' ∧ Only b w w' := by
  have F := Lib.hid hok.facts
  have H1 := Lib.hid h
  have c7 : w.cell? ⟨b, 7, none⟩ = some (.int .i64 s.cur.row) := h.box.cell 7
  have c37 : w.cell? ⟨b, 37, none⟩ = some (.int .i64 s.top) := h.box.cell 37
  have c38 : w.cell? ⟨b, 38, none⟩ = some (.int .i64 s.bottom) := h.box.cell 38
  by_cases hc1 : s.cur.row < s.top
  · have hd : decide (s.cur.row < s.top) = true := decide_eq_true hc1
    have HE : Hid (openS s n = s) := Lib.hid (by unfold openS; rw [if_pos (.inl hc1)])
    rw [HE.out]
    clear h hok hc1
    go_enter Tryz.func142, Tryz.ntmps142
    go_upto_region 0 with (fail)
    go_quiet (fail)
    go_wp2_with fail
    go_returns
    exact ⟨rfl, _, _, H1.out.kept (by first | exact Below.refl _ _ | exact (Below.refl _ _).drew | exact bel_drewN _ _), by first | exact (bel_drewN _ _).mono H1.out.lo | exact Below.refl _ _, by first | exact Only.bel (Only.refl _ _) (bel_drewN _ _) | exact Only.refl _ _⟩
  have hd1 : decide (s.cur.row < s.top) = false := decide_eq_false hc1
  by_cases hc2 : s.bottom < s.cur.row
  · have hd : decide (s.bottom < s.cur.row) = true := decide_eq_true hc2
    have HE : Hid (openS s n = s) := Lib.hid (by unfold openS; rw [if_pos (.inr hc2)])
    rw [HE.out]
    clear h hok hc1 hc2
    go_enter Tryz.func142, Tryz.ntmps142
    go_upto_region 0 with (fail)
    go_quiet (fail)
    go_wp2_with fail
    go_returns
    exact ⟨rfl, _, _, H1.out.kept (by first | exact Below.refl _ _ | exact (Below.refl _ _).drew | exact bel_drewN _ _), by first | exact (bel_drewN _ _).mono H1.out.lo | exact Below.refl _ _, by first | exact Only.bel (Only.refl _ _) (bel_drewN _ _) | exact Only.refl _ _⟩
  have hd : decide (s.bottom < s.cur.row) = false := decide_eq_false hc2
  have HE : Hid (openS s n = col0 (rollS s s.cur.row n)) := Lib.hid (by unfold openS; rw [if_neg (by omega)])
  have HRL : Hid (∀ W, Pn W b base s x y z → _) := Lib.hid fun W k => edRoll_any s x y z b base s.cur.row n W k hok F.out.row0 (by omega) hn hl hh
  rw [HE.out]
  clear h hok hc1 hc2 hn hl hh
  go_enter Tryz.func142, Tryz.ntmps142
  go_upto_region 0 with (fail)
  go_quiet (fail)
  go_upto_region 1 with (fail)
  have HQQ := Lib.hid (bel_drewN w nq)
  generalize w.drewN nq = wq at HQQ ⊢
  have H2 := Lib.hid (H1.out.kept HQQ.out)
  have HB2 := Lib.hid (HQQ.out.mono H1.out.lo)
  have HO2 := Lib.hid (Only.bel (Only.refl b w) HQQ.out)
  clear c7 c37 c38 H1 HQQ
  have c7 : wq.cell? ⟨b, 7, none⟩ = some (.int .i64 s.cur.row) := H2.out.box.cell 7
  go_wp2_with fail
  refine (HRL.out wq H2.out).mono ?_; rintro e w3 ⟨rfl, x3, y3, hp, _, hb, ho⟩
  have H3 := Lib.hid hp
  have HB3 := Lib.hid (HB2.out.trans hb)
  have HO3 := Lib.hid (Only.trans HO2.out ho)
  have c8 : w3.cell? ⟨b, 8, none⟩ = some (.int .i64 (rollS s s.cur.row n).cur.col) := hp.box.cell 8
  have f8 : w3.frozen? ⟨b, 8, none⟩ = false := hp.box.free 8
  clear hp hb ho H2 HB2 HO2 c7
  go_wp2_with fail
  go_end0
  exact ⟨rfl, _, _, ⟨Blk.set H3.out.box 8 _, (H3.out.own.set H3.out.lt 8 _).as _ rfl rfl rfl, H3.out.lt, by rw [size_set]; exact H3.out.up⟩, HB3.out.setCell (Nat.le_refl b) _, HO3.out.set 8 _⟩
set_option maxHeartbeats 3200000 in
theorem edDo_scroll (s : S) (x y z : Value) (b base : Nat) (n : Int) (w : World) (h : Pn w b base s x y z) (hok : Ok s) (hd : DeedOk (.scroll n)) :
    Calls Tryz.prog 102 #[.pointer (some ⟨b, 0, none⟩), .iface 148 (.int .i64 n)] w fun e w' => e = .returned (.tuple #[]) ∧ ∃ x' y', Pn w' b base (rollS s s.top n) x' y' z ∧ Near b base w w' := by
  have c37 : w.cell? ⟨b, 37, none⟩ = some (.int .i64 s.top) := h.box.cell 37
  have HRL := Lib.hid (edRoll_any s x y z b base s.top n w h hok hok.facts.top0 hok.facts.tb hd.1 hd.2.1 hd.2.2)
  clear h hok hd
  go_enter Tryz.func102, Tryz.ntmps102
  go_wp2_with fail
  refine HRL.out.mono ?_; rintro e w3 ⟨rfl, x3, y3, hp, _, hb, ho⟩
  have H3 := Lib.hid hp
  have HN := Lib.hid (near_only (base := base) hb ho)
  clear hp hb ho HRL
  go_wp2_with fail
  go_returns
  exact ⟨rfl, _, _, H3.out, HN.out⟩
set_option maxHeartbeats 3200000 in
theorem edDo_wipe (s : S) (x y z : Value) (b base : Nat) (lo hi : Int) (w : World) (h : Pn w b base s x y z) (hap : Apart x y) (hok : Ok s) (hd : DeedOk (.wipe lo hi)) :
    Calls Tryz.prog 102 #[.pointer (some ⟨b, 0, none⟩), .iface 152 (.agg #[.int .i64 lo, .int .i64 hi])] w fun e w' => e = .returned (.tuple #[]) ∧ ∃ x' y', Pn w' b base (wipeS (noWrap s) lo hi) x' y' z ∧ Near b base w w' := by
  have c9 : w.cell? ⟨b, 9, none⟩ = some (.bool s.cur.wrap) := h.box.cell 9
  have f9 : w.frozen? ⟨b, 9, none⟩ = false := h.box.free 9
  have H1 := Lib.hid h.wrap
  have HN1 := Lib.hid (near_set (b := b) (base := base) w 9 (.bool false))
  have HLT := Lib.hid h.lt
  have HRL : Hid (∀ W, Pn W b base (noWrap s) x y z → _) := Lib.hid fun W k => edErase_any (noWrap s) x y z b base lo hi W k hap (noWrap_ok hok) hd.1 hd.2.1 hd.2.2.1 hd.2.2.2
  clear h hok hd hap
  go_enter Tryz.func102, Tryz.ntmps102
  go_upto_region 4 with (fail)
  change Code.wp _ _ _ _ (w.setCell ⟨b, 9, none⟩ (.bool false))
  clear c9 f9
  generalize w.setCell ⟨b, 9, none⟩ (.bool false) = w1 at H1 HN1 ⊢
  have H2 := Lib.hid (H1.out.kept (bel_alloc w1 (wpbx lo hi)))
  have HN2 := Lib.hid (HN1.out.trans (near_below (by have := HLT.out; omega) ((bel_alloc w1 (wpbx lo hi)).mono H1.out.up)))
  go_wp2_with fail
  refine (HRL.out _ H2.out).mono ?_; rintro e w3 ⟨rfl, hp, hb⟩
  have H3 := Lib.hid hp
  have HN := Lib.hid (HN2.out.trans (near_below (by have := HLT.out; omega) hb))
  clear hp hb HRL
  go_wp2_with fail
  go_returns
  exact ⟨rfl, _, _, H3.out, HN.out⟩
set_option maxHeartbeats 3200000 in
theorem edDo_shift (s : S) (x y z : Value) (b base : Nat) (n : Int) (w : World) (h : Pn w b base s x y z) (hap : Apart x y) (hok : Ok s) (hd : DeedOk (.shift n)) :
    Calls Tryz.prog 102 #[.pointer (some ⟨b, 0, none⟩), .iface 155 (.int .i64 n)] w fun e w' => e = .returned (.tuple #[]) ∧ ∃ x' y', Pn w' b base (pushS (noWrap s) n) x' y' z ∧ Near b base w w' := by
  have c9 : w.cell? ⟨b, 9, none⟩ = some (.bool s.cur.wrap) := h.box.cell 9
  have f9 : w.frozen? ⟨b, 9, none⟩ = false := h.box.free 9
  have H1 := Lib.hid h.wrap
  have HN1 := Lib.hid (near_set (b := b) (base := base) w 9 (.bool false))
  have HLT := Lib.hid h.lt
  have HRL : Hid (∀ W, Pn W b base (noWrap s) x y z → _) := Lib.hid fun W k => edPush_any (noWrap s) x y z b base n W k hap (noWrap_ok hok) hd.1 hd.2.1 hd.2.2
  clear h hok hd hap
  go_enter Tryz.func102, Tryz.ntmps102
  go_upto_region 4 with (fail)
  change Code.wp _ _ _ _ (w.setCell ⟨b, 9, none⟩ (.bool false))
  clear c9 f9
  generalize w.setCell ⟨b, 9, none⟩ (.bool false) = w1 at H1 HN1 ⊢
  have H2 := Lib.hid (H1.out.kept (bel_alloc w1 (wpbx 0 0)))
  have HN2 := Lib.hid (HN1.out.trans (near_below (by have := HLT.out; omega) ((bel_alloc w1 (wpbx 0 0)).mono H1.out.up)))
  go_wp2_with fail
  refine (HRL.out _ H2.out).mono ?_; rintro e w3 ⟨rfl, hp, hb⟩
  have H3 := Lib.hid hp
  have HN := Lib.hid (HN2.out.trans (near_below (by have := HLT.out; omega) hb))
  clear hp hb HRL
  go_wp2_with fail
  go_returns
  exact ⟨rfl, _, _, H3.out, HN.out⟩
set_option maxHeartbeats 3200000 in
theorem edDo_lines (s : S) (x y z : Value) (b base : Nat) (n : Int) (w : World) (h : Pn w b base s x y z) (hok : Ok s) (hd : DeedOk (.lines n)) :
    Calls Tryz.prog 102 #[.pointer (some ⟨b, 0, none⟩), .iface 157 (.int .i64 n)] w fun e w' => e = .returned (.tuple #[]) ∧ ∃ x' y', Pn w' b base (openS (noWrap s) n) x' y' z ∧ Near b base w w' := by
  have c9 : w.cell? ⟨b, 9, none⟩ = some (.bool s.cur.wrap) := h.box.cell 9
  have f9 : w.frozen? ⟨b, 9, none⟩ = false := h.box.free 9
  have H1 := Lib.hid h.wrap
  have HN1 := Lib.hid (near_set (b := b) (base := base) w 9 (.bool false))
  have HLT := Lib.hid h.lt
  have HRL : Hid (∀ W, Pn W b base (noWrap s) x y z → _) := Lib.hid fun W k => edOpen_any (noWrap s) x y z b base n W k (noWrap_ok hok) hd.1 hd.2.1 hd.2.2
  clear h hok hd
  go_enter Tryz.func102, Tryz.ntmps102
  go_upto_region 4 with (fail)
  change Code.wp _ _ _ _ (w.setCell ⟨b, 9, none⟩ (.bool false))
  clear c9 f9
  generalize w.setCell ⟨b, 9, none⟩ (.bool false) = w1 at H1 HN1 ⊢
  have H2 := Lib.hid (H1.out.kept (bel_alloc w1 (wpbx 0 0)))
  have HN2 := Lib.hid (HN1.out.trans (near_below (by have := HLT.out; omega) ((bel_alloc w1 (wpbx 0 0)).mono H1.out.up)))
  go_wp2_with fail
  refine (HRL.out _ H2.out).mono ?_; rintro e w3 ⟨rfl, x3, y3, hp, hb, ho⟩
  have H3 := Lib.hid hp
  have HN := Lib.hid (HN2.out.trans (near_only hb ho))
  clear hp hb ho HRL
  go_wp2_with fail
  go_end0
  exact ⟨rfl, _, _, H3.out, HN.out⟩
theorem edDo_any (s : S) (x y z : Value) (b base : Nat) (d : Deed) (w : World) (h : Pn w b base s x y z) (hap : Apart x y) (hok : Ok s) (hd : DeedOk d) :
    Calls Tryz.prog 102 #[.pointer (some ⟨b, 0, none⟩), deedV d] w fun e w' => e = .returned (.tuple #[]) ∧ ∃ x' y', Pn w' b base (doS s d) x' y' z ∧ Near b base w w' := by
  cases d with
  | wipe lo hi => exact edDo_wipe s x y z b base lo hi w h hap hok hd
  | shift n => exact edDo_shift s x y z b base n w h hap hok hd
  | lines n => exact edDo_lines s x y z b base n w h hok hd
  | scroll n => exact edDo_scroll s x y z b base n w h hok hd
noncomputable def mayE (s : S) (key n : Int) : Bool := okB s && (ekeyB key && numB n)
theorem mayE_iff {s : S} {key n : Int} : mayE s key n = true ↔ okB s = true ∧ ekeyB key = true ∧ numB n = true := by
  unfold mayE
  rw [Bool.and_eq_true, Bool.and_eq_true]
theorem Pc.pbE {w0 w : World} {s : S} {x y z : Value} (h : Pc w0 s x y z w) (ho : Own w (w0.heap.size + 2) s x y z) : Pb w0 s x y z w := ⟨⟨h.b0, ho, by omega, h.up⟩, h.b1, h.bel⟩
theorem Pb.near {w0 w w' : World} {s s' : S} {x y z x' y' z' : Value} (h : Pb w0 s x y z w) (hp : Pn w' w0.heap.size (w0.heap.size + 2) s' x' y' z') (hn : Near w0.heap.size (w0.heap.size + 2) w w') : Pb w0 s' x' y' z' w' :=
  ⟨hp, hn.mid _ _ (by omega) (by omega) h.b1, h.bel.trans hn.bel⟩
set_option maxHeartbeats 6400000 in
theorem editD (s : S) (x y z : Value) (key n : Int) (w : World) (h : In w s x y z) (hh : Holds s) (hT : Tabs w) :
    Calls Tryz.prog 45 #[sv s x y z, .int .i64 key, .int .i64 n] w fun e w' => ∃ X x' y' z' code, e = .returned (.tuple #[sv X x' y' z', .int .i64 code]) ∧ Ans w w' (mayE s key n) (editS s key n) X x' y' z' code := by
  have HI := Lib.hid h
  have H0 := Lib.hid (Pc.start w s x y z)
  have HCK := Lib.hid (check_any s x y z _ (h.kept H0.out.bel) hh (hT.kept H0.out.bel))
  have HKY := Lib.hid (fun W => isKey_any key W)
  unfold codeB at HCK
  cases hok : okB s
  · have HM : Hid (mayE s key n = false) := Lib.hid (by unfold mayE; rw [hok]; rfl)
    rw [hok] at HCK
    clear h hh hT hok
    go_enter Tryz.func45, Tryz.ntmps45
    go_wp2_with (first
      | (refine wp_allocS1 (w := w) rfl rfl ?_)
      | (refine wp_loadS (b := w.heap.size) (s := s) rfl rfl rfl H0.out.b0 ?_))
    refine HCK.out.mono ?_; rintro e w1 ⟨rfl, hb⟩
    have H1 := Lib.hid (H0.out.kept hb)
    clear hb H0 HCK
    go_wp2_with (refine wp_storeS (b := w.heap.size + 1) (A := zarr) rfl rfl rfl rfl rfl (sarr_one rfl rfl rfl) H1.out.b1 rfl ?_; intro w7 h7)
    refine bodyPost_ret (ret2S (s := noS) (x := nilS) (y := nilS) (z := nilS) rfl rfl h7.box rfl) rfl ?_
    exact ⟨_, _, _, _, _, rfl, ans_no HM.out (h7.below _ _ (by omega) H1.out.bel)⟩
  rw [hok] at HCK
  have HK := Lib.hid ((ok_iff s).1 hok)
  have HL := Lib.hid HK.out.lens
  by_cases hn1 : n < -1
  · have HM : Hid (mayE s key n = false) := Lib.hid (by
      have : numB n = false := by cases e : numB n; rfl; exact absurd (numB_iff.1 e).1 (by omega)
      unfold mayE; rw [this, Bool.and_false, Bool.and_false])
    have hd : decide (n < -1) = true := decide_eq_true hn1
    clear h hh hT hok
    go_enter Tryz.func45, Tryz.ntmps45
    go_wp2_with (first
      | (refine wp_allocS1 (w := w) rfl rfl ?_)
      | (refine wp_loadS (b := w.heap.size) (s := s) rfl rfl rfl H0.out.b0 ?_))
    refine HCK.out.mono ?_; rintro e w1 ⟨rfl, hb⟩
    have H1 := Lib.hid (H0.out.kept hb)
    clear hb H0 HCK
    go_wp2_with (refine wp_storeS (b := w.heap.size + 1) (A := zarr) rfl rfl rfl rfl rfl (sarr_one rfl rfl rfl) H1.out.b1 rfl ?_; intro w7 h7)
    refine bodyPost_ret (ret2S (s := noS) (x := nilS) (y := nilS) (z := nilS) rfl rfl h7.box rfl) rfl ?_
    exact ⟨_, _, _, _, _, rfl, ans_no HM.out (h7.below _ _ (by omega) H1.out.bel)⟩
  have hd1 : decide (n < -1) = false := decide_eq_false hn1
  by_cases hn2 : 9999 < n
  · have HM : Hid (mayE s key n = false) := Lib.hid (by
      have : numB n = false := by cases e : numB n; rfl; exact absurd (numB_iff.1 e).2 (by omega)
      unfold mayE; rw [this, Bool.and_false, Bool.and_false])
    have hd : decide (9999 < n) = true := decide_eq_true hn2
    clear h hh hT hok
    go_enter Tryz.func45, Tryz.ntmps45
    go_wp2_with (first
      | (refine wp_allocS1 (w := w) rfl rfl ?_)
      | (refine wp_loadS (b := w.heap.size) (s := s) rfl rfl rfl H0.out.b0 ?_))
    refine HCK.out.mono ?_; rintro e w1 ⟨rfl, hb⟩
    have H1 := Lib.hid (H0.out.kept hb)
    clear hb H0 HCK
    go_wp2_with (refine wp_storeS (b := w.heap.size + 1) (A := zarr) rfl rfl rfl rfl rfl (sarr_one rfl rfl rfl) H1.out.b1 rfl ?_; intro w7 h7)
    refine bodyPost_ret (ret2S (s := noS) (x := nilS) (y := nilS) (z := nilS) rfl rfl h7.box rfl) rfl ?_
    exact ⟨_, _, _, _, _, rfl, ans_no HM.out (h7.below _ _ (by omega) H1.out.bel)⟩
  have hd2 : decide (9999 < n) = false := decide_eq_false hn2
  have HNB : Hid (numB n = true) := Lib.hid (numB_iff.2 ⟨by omega, by omega⟩)
  cases hk : ekeyB key
  · have HM : Hid (mayE s key n = false) := Lib.hid (by unfold mayE; rw [hk, Bool.false_and, Bool.and_false])
    rw [hk] at HKY
    clear h hh hT hok hk
    go_enter Tryz.func45, Tryz.ntmps45
    go_wp2_with (first
      | (refine wp_allocS1 (w := w) rfl rfl ?_)
      | (refine wp_loadS (b := w.heap.size) (s := s) rfl rfl rfl H0.out.b0 ?_))
    refine HCK.out.mono ?_; rintro e w1 ⟨rfl, hb⟩
    have H1 := Lib.hid (H0.out.kept hb)
    clear hb H0 HCK
    go_wp2_with fail
    refine (HKY.out w1).mono ?_; rintro e w2 ⟨rfl, hb⟩
    have H2 := Lib.hid (H1.out.kept hb)
    clear hb H1
    go_wp2_with (refine wp_storeS (b := w.heap.size + 1) (A := zarr) rfl rfl rfl rfl rfl (sarr_one rfl rfl rfl) H2.out.b1 rfl ?_; intro w7 h7)
    refine bodyPost_ret (ret2S (s := noS) (x := nilS) (y := nilS) (z := nilS) rfl rfl h7.box rfl) rfl ?_
    exact ⟨_, _, _, _, _, rfl, ans_no HM.out (h7.below _ _ (by omega) H2.out.bel)⟩
  have HM : Hid (mayE s key n = true) := Lib.hid (mayE_iff.2 ⟨hok, hk, HNB.out⟩)
  have HDD : Hid (∀ X Y Z W, Calls Tryz.prog 103 #[sv s X Y Z, .int .i64 key, .int .i64 n] W fun e w' => e = .returned (deedV (deedL s key n)) ∧ Below W.heap.size W w') := Lib.hid fun X Y Z W => deed_any s X Y Z key n W HK.out.facts hk (by omega) (by omega)
  have HDK := Lib.hid (deed_ok HK.out.facts key (n := n) (by omega) (by omega))
  have HES : Hid (doS s (deedL s key n) = editS s key n) := Lib.hid rfl
  rw [hk] at HKY
  clear h hh hT hok hk
  go_enter Tryz.func45, Tryz.ntmps45
  go_wp2_with (first
    | (refine wp_allocS1 (w := w) rfl rfl ?_)
    | (refine wp_loadS (b := w.heap.size) (s := s) rfl rfl rfl H0.out.b0 ?_))
  refine HCK.out.mono ?_; rintro e w1 ⟨rfl, hb⟩
  have H1 := Lib.hid (H0.out.kept hb)
  clear hb H0 HCK
  go_wp2_with fail
  refine (HKY.out w1).mono ?_; rintro e w1b ⟨rfl, hb⟩
  have H1b := Lib.hid (H1.out.kept hb)
  clear hb H1 HKY
  have c0' : ∀ j, w1b.cell? ⟨w.heap.size, j, none⟩ = (sarr s x y z)[j]? := H1b.out.b0.cell
  go_wp2_with fail
  refine (Row.clone_any s.main.cells x _ (HI.out.kept H1b.out.bel).m.cs HL.out.1).mono ?_; rintro e w1 ⟨v, rfl, ho, hb⟩
  obtain ⟨A2, n2, c2, rfl⟩ : ∃ A n c, v = .slice A n c := (by obtain ⟨A, c, e, _⟩ := ho.rm.2; exact ⟨A, _, c, e⟩)
  have H1 := Lib.hid (H1b.out.kept hb)
  have HU := Lib.hid H1b.out.up
  have H2 := Lib.hid (H1.out.putM (.slice A2 n2 c2))
  have HM2 := Lib.hid ((ho.low HU.out).set (show w.heap.size < w.heap.size + 2 by omega) 2 (.slice A2 n2 c2))
  have f1 : ∀ j, w1.frozen? ⟨w.heap.size, j, none⟩ = false := H1.out.b0.free
  have c1 : ∀ j, w1.cell? ⟨w.heap.size, j, none⟩ = (sarr s x y z)[j]? := H1.out.b0.cell
  clear ho hb H1b HU c0'
  go_upto_region 4 with (fail)
  change Code.wp _ _ _ _ (w1.setCell ⟨w.heap.size, 2, none⟩ (.slice A2 n2 c2))
  clear f1 c1 H1
  generalize w1.setCell ⟨w.heap.size, 2, none⟩ (.slice A2 n2 c2) = w2 at H2 HM2 ⊢
  have c2' : ∀ j, w2.cell? ⟨w.heap.size, j, none⟩ = (sarr s (.slice A2 n2 c2) y z)[j]? := H2.out.b0.cell
  go_wp2_with fail
  refine (Row.clone_any s.other.cells y _ (HI.out.kept H2.out.bel).o.cs HL.out.2.1).mono ?_; rintro e w3 ⟨v, rfl, ho, hb⟩
  obtain ⟨A3, n3, c3, rfl⟩ : ∃ A n c, v = .slice A n c := (by obtain ⟨A, c, e, _⟩ := ho.rm.2; exact ⟨A, _, c, e⟩)
  have H3 := Lib.hid (H2.out.kept hb)
  have HU := Lib.hid H2.out.up
  have H4 := Lib.hid (H3.out.putO (.slice A3 n3 c3))
  have HAP : Hid (Apart (.slice A2 n2 c2) (.slice A3 n3 c3)) := Lib.hid (fun k e1 e2 => by have h1 := (HM2.out.lt k e1).2; have h2 := (ho.lt k e2).1; omega)
  have HM4 := Lib.hid ((HM2.out.kept hb).set (show w.heap.size < w.heap.size + 2 by omega) 5 (.slice A3 n3 c3))
  have HO4 := Lib.hid ((ho.low HU.out).set (show w.heap.size < w.heap.size + 2 by omega) 5 (.slice A3 n3 c3))
  have f3 : ∀ j, w3.frozen? ⟨w.heap.size, j, none⟩ = false := H3.out.b0.free
  have c3' : ∀ j, w3.cell? ⟨w.heap.size, j, none⟩ = (sarr s (.slice A2 n2 c2) y z)[j]? := H3.out.b0.cell
  clear ho hb H2 HU HM2 c2'
  go_upto_region 5 with (fail)
  change Code.wp _ _ _ _ (w3.setCell ⟨w.heap.size, 5, none⟩ (.slice A3 n3 c3))
  clear f3 c3' H3
  generalize w3.setCell ⟨w.heap.size, 5, none⟩ (.slice A3 n3 c3) = w4 at H4 HM4 HO4 ⊢
  have c4' : ∀ j, w4.cell? ⟨w.heap.size, j, none⟩ = (sarr s (.slice A2 n2 c2) (.slice A3 n3 c3) z)[j]? := H4.out.b0.cell
  go_wp2_with fail
  refine (Tab.clone_any s.tabs z _ (HI.out.kept H4.out.bel).t HL.out.2.2).mono ?_; rintro e w5 ⟨v, rfl, ho, hb⟩
  obtain ⟨A5, n5, c5, rfl⟩ : ∃ A n c, v = .slice A n c := (by obtain ⟨A, c, e, _⟩ := ho.bl.room; exact ⟨A, _, c, e⟩)
  have H5 := Lib.hid (H4.out.kept hb)
  have HU := Lib.hid H4.out.up
  have H6 := Lib.hid (H5.out.putT (.slice A5 n5 c5))
  have HO6 : Hid (Own (w5.setCell ⟨w.heap.size, 39, none⟩ (.slice A5 n5 c5)) (w.heap.size + 2) s (.slice A2 n2 c2) (.slice A3 n3 c3) (.slice A5 n5 c5)) := Lib.hid ⟨(HM4.out.kept hb).set (by omega) 39 _, (HO4.out.kept hb).set (by omega) 39 _, ownB_set (ho.low HU.out) (by omega) 39 _⟩
  have f5 : ∀ j, w5.frozen? ⟨w.heap.size, j, none⟩ = false := H5.out.b0.free
  have c5' : ∀ j, w5.cell? ⟨w.heap.size, j, none⟩ = (sarr s (.slice A2 n2 c2) (.slice A3 n3 c3) z)[j]? := H5.out.b0.cell
  clear ho hb H4 HU HM4 HO4 c4'
  go_upto_region 6 with (fail)
  change Code.wp _ _ _ _ (w5.setCell ⟨w.heap.size, 39, none⟩ (.slice A5 n5 c5))
  clear f5 c5' H5
  have HP6 := Lib.hid (H6.out.pbE HO6.out)
  clear H6 HO6
  generalize w5.setCell ⟨w.heap.size, 39, none⟩ (.slice A5 n5 c5) = w6 at HP6 ⊢
  go_wp2_with (refine wp_loadS (b := w.heap.size) (s := s) rfl rfl rfl HP6.out.pn.box ?_)
  refine (HDD.out _ _ _ w6).mono ?_; rintro e w7 ⟨rfl, hb⟩
  have HP7 := Lib.hid (HP6.out.kept hb)
  clear hb HP6 HDD
  go_wp2_with fail
  refine (edDo_any s _ _ _ w.heap.size (w.heap.size + 2) _ w7 HP7.out.pn HAP.out HK.out HDK.out).mono ?_; rintro e w8 ⟨rfl, x8, y8, hp, hn⟩
  have HP8 := Lib.hid (HP7.out.near hp hn)
  clear hp hn HP7
  rw [HES.out] at HP8
  go_wp2_with (first
    | (refine wp_loadS (b := w.heap.size) (s := editS s key n) rfl rfl rfl HP8.out.pn.box ?_)
    | (refine wp_storeS (b := w.heap.size + 1) rfl rfl rfl rfl rfl HP8.out.pn.own.in_.one HP8.out.b1 rfl ?_; intro w9 h9))
  refine bodyPost_ret (ret2S rfl rfl h9.box rfl) rfl ?_
  exact ⟨_, _, _, _, _, rfl, h9.below _ _ (by omega) HP8.out.bel, Own.low (h9.own HP8.out.pn.own (by omega)) (by omega), by rw [HM.out]; rfl, fun _ => rfl, fun e => by rw [HM.out] at e; cases e⟩
end Scr
end
end Go.Proofs.YtceaoadlhdgnmaaGreatDoor
