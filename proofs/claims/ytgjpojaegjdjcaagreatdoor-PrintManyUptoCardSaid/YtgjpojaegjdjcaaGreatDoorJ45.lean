/- Joined texts: PrnPen. -/
import Derived.Test.YtgjpojaegjdjcaaGreatDoorJ1
import Derived.Test.YtgjpojaegjdjcaaGreatDoorJ2
import Derived.Test.YtgjpojaegjdjcaaGreatDoorJ3
import Derived.Test.YtgjpojaegjdjcaaGreatDoorJ4
import Derived.Test.YtgjpojaegjdjcaaGreatDoorJ5
import Derived.Test.YtgjpojaegjdjcaaGreatDoorJ6
import Derived.Test.YtgjpojaegjdjcaaGreatDoorJ7
import Derived.Test.YtgjpojaegjdjcaaGreatDoorJ8
import Derived.Test.YtgjpojaegjdjcaaGreatDoorJ9
import Derived.Test.YtgjpojaegjdjcaaGreatDoorJ10
import Derived.Test.YtgjpojaegjdjcaaGreatDoorJ11
import Derived.Test.YtgjpojaegjdjcaaGreatDoorJ12
import Derived.Test.YtgjpojaegjdjcaaGreatDoorJ13
import Derived.Test.YtgjpojaegjdjcaaGreatDoorJ14
import Derived.Test.YtgjpojaegjdjcaaGreatDoorJ15
import Derived.Test.YtgjpojaegjdjcaaGreatDoorJ17
import Derived.Test.YtgjpojaegjdjcaaGreatDoorJ18
import Derived.Test.YtgjpojaegjdjcaaGreatDoorJ19
import Derived.Test.YtgjpojaegjdjcaaGreatDoorJ20
import Derived.Test.YtgjpojaegjdjcaaGreatDoorJ43
import Derived.Test.YtgjpojaegjdjcaaGreatDoorJ44
import Derived.Test.YtgjpojaegjdjcaaGreatDoorJ61
import Derived.Deep.RegionLaw
import Derived.Deep.RegionHeld3
section
/- A line feed on a screen that lies in a box, in memory of the call's own: the developers'. -/
namespace Go.Proofs.YtgjpojaegjdjcaaGreatDoor
set_option maxRecDepth 100000
open Go.RowKit
namespace Scr
open Go.Proofs.YtgjpojaegjdjcaaGreatDoor.Row

/-- Where the seen grid lies in a screen. -/
def seatO (s : S) : Nat := if s.swapped then 3 else 0
theorem seat_arr (s : S) (x y z : Value) : (sarr s x y z)[seatO s]? = some (.int .i64 (seenG s).rows) ∧ (sarr s x y z)[seatO s + 1]? = some (.int .i64 (seenG s).cols) ∧ (sarr s x y z)[seatO s + 2]? = some (seenX s x y) := by
  unfold seatO seenG seenX
  cases s.swapped
  · exact ⟨rfl, rfl, rfl⟩
  · exact ⟨rfl, rfl, rfl⟩
def putX (s : S) (x v : Value) : Value := if s.swapped then x else v
def putY (s : S) (y v : Value) : Value := if s.swapped then v else y
/-- A grid stored whole, at a place in a screen. -/
def pput (w : World) (b p : Nat) (R C : Int) (v : Value) : World := ((w.setCell ⟨b, p, none⟩ (.int .i64 R)).setCell ⟨b, p + 1, none⟩ (.int .i64 C)).setCell ⟨b, p + 2, none⟩ v
theorem pput_below {B b p : Nat} {a w : World} (h : Below B a w) (hB : B ≤ b) (R C : Int) (v : Value) : Below B a (pput w b p R C v) := ((h.setCell hB _).setCell hB _).setCell hB _
theorem pput_only {b p : Nat} {a w : World} (h : Only b a w) (R C : Int) (v : Value) : Only b a (pput w b p R C v) := ((h.set _ _).set _ _).set _ _
theorem Pn.seen {w : World} {b base : Nat} {s : S} {x y z v : Value} (h : Pn w b base s x y z) {G : Gr} (hv : OwnCs w base v G.cells) : Pn (pput w b (seatO s) G.rows G.cols v) b base (putG s G) (putX s x v) (putY s y v) z := by
  have ho : Own (pput w b (seatO s) G.rows G.cols v) base s x y z := ((h.own.set h.lt _ _).set h.lt _ _).set h.lt _ _
  have hv' : OwnCs (pput w b (seatO s) G.rows G.cols v) base v G.cells := ((hv.set h.lt _ _).set h.lt _ _).set h.lt _ _
  have hu : base ≤ (pput w b (seatO s) G.rows G.cols v).heap.size := by unfold pput; rw [size_set, size_set, size_set]; exact h.up
  cases hs : s.swapped with
  | false =>
    have e0 : seatO s = 0 := by unfold seatO; rw [hs]; rfl
    have e1 : putG s G = { s with main := G } := by unfold putG; rw [hs]; rfl
    have e2 : putX s x v = v := by unfold putX; rw [hs]; rfl
    have e3 : putY s y v = y := by unfold putY; rw [hs]; rfl
    rw [e0] at ho hv' hu ⊢
    rw [e1, e2, e3]
    exact ⟨h.box.putMain G.rows G.cols G.cells v, ⟨hv', ho.o, ho.t⟩, h.lt, hu⟩
  | true =>
    have e0 : seatO s = 3 := by unfold seatO; rw [hs]; rfl
    have e1 : putG s G = { s with other := G } := by unfold putG; rw [hs]; rfl
    have e2 : putX s x v = x := by unfold putX; rw [hs]; rfl
    have e3 : putY s y v = v := by unfold putY; rw [hs]; rfl
    rw [e0] at ho hv' hu ⊢
    rw [e1, e2, e3]
    exact ⟨h.box.putOther G.rows G.cols G.cells v, ⟨ho.m, hv', ho.t⟩, h.lt, hu⟩
/-- Two slices over no one block. -/
def Apart (x y : Value) : Prop := ∀ k, x.ownBlock = some k → y.ownBlock ≠ some k
theorem put_apart {s : S} {x y v : Value} {B : Nat} (hx : ∀ k, x.ownBlock = some k → k < B) (hy : ∀ k, y.ownBlock = some k → k < B) (hv : ∀ k, v.ownBlock = some k → B ≤ k) : Apart (putX s x v) (putY s y v) := by
  unfold putX putY
  intro k h1 h2
  cases hs : s.swapped with
  | false =>
    rw [hs] at h1 h2
    have := hv k h1; have := hy k h2; omega
  | true =>
    rw [hs] at h1 h2
    have := hx k h1; have := hv k h2; omega
theorem penSeen (s : S) (x y z : Value) (b : Nat) (w : World) (h : SBox w b s x y z) : Calls Tryz.prog 74 #[.pointer (some ⟨b, 0, none⟩)] w fun e w' => e = .returned (.pointer (some ⟨b, seatO s, none⟩)) ∧ w = w' := by
  have c0 : ∀ j, w.cell? ⟨b, j, none⟩ = (sarr s x y z)[j]? := h.cell
  clear h
  cases hs : s.swapped
  · have HO : Hid (seatO s = 0) := Lib.hid (by unfold seatO; rw [hs]; rfl)
    rw [HO.out]
    go_enter Tryz.func74, Tryz.ntmps74
    go_wp2_with fail
    go_ret
    exact ⟨rfl, rfl⟩
  · have HO : Hid (seatO s = 3) := Lib.hid (by unfold seatO; rw [hs]; rfl)
    rw [HO.out]
    go_enter Tryz.func74, Tryz.ntmps74
    go_wp2_with fail
    go_ret
    exact ⟨rfl, rfl⟩
/-- grid.Up of a grid that may be. -/
theorem upG_any (G : Gr) (v : Value) (top bot : Int) (a : Look) (w : World) (hg : gridB G = true) (hv : Rm w v G.cells) (ha : attrOk a = true) (h0 : 0 ≤ top) (h1 : top ≤ bot) (h2 : bot < G.rows) :
    Calls Tryz.prog 89 #[gridV G v, .int .i64 top, .int .i64 bot, .int .i64 1, .agg #[.int .i64 a.fg, .int .i64 a.bg, .int .i64 a.flags]] w fun e w' =>
      ∃ u, e = .returned (.tuple #[gridV (moveG G top bot 1 a) u, .int .i64 0]) ∧ OwnCs w' w.heap.size u (moveG G top bot 1 a).cells ∧ Below w.heap.size w w' := by
  obtain ⟨R, C, rs, rfl, hr, _⟩ := parts_of hg
  rw [moveG_parts hr]
  obtain ⟨t, rfl⟩ := Int.eq_ofNat_of_zero_le h0
  obtain ⟨k, rfl⟩ := Int.eq_ofNat_of_zero_le (show 0 ≤ bot by omega)
  rw [Int.toNat_natCast, Int.toNat_natCast]
  exact up_fits R C rs a t k 1 v w hr hv hr.held ha (by omega) (by have : (k : Int) < (R : Int) := h2; omega) (by omega)
theorem downG_any (G : Gr) (v : Value) (top bot : Int) (a : Look) (w : World) (hg : gridB G = true) (hv : Rm w v G.cells) (ha : attrOk a = true) (h0 : 0 ≤ top) (h1 : top ≤ bot) (h2 : bot < G.rows) :
    Calls Tryz.prog 90 #[gridV G v, .int .i64 top, .int .i64 bot, .int .i64 1, .agg #[.int .i64 a.fg, .int .i64 a.bg, .int .i64 a.flags]] w fun e w' =>
      ∃ u, e = .returned (.tuple #[gridV (moveG G top bot (-1) a) u, .int .i64 0]) ∧ OwnCs w' w.heap.size u (moveG G top bot (-1) a).cells ∧ Below w.heap.size w w' := by
  obtain ⟨R, C, rs, rfl, hr, _⟩ := parts_of hg
  rw [moveG_parts hr]
  obtain ⟨t, rfl⟩ := Int.eq_ofNat_of_zero_le h0
  obtain ⟨k, rfl⟩ := Int.eq_ofNat_of_zero_le (show 0 ≤ bot by omega)
  rw [Int.toNat_natCast, Int.toNat_natCast]
  exact down_fits R C rs a t k 1 v w hr hv hr.held ha (by omega) (by have : (k : Int) < (R : Int) := h2; omega) (by omega)
end Scr
end Go.Proofs.YtgjpojaegjdjcaaGreatDoor
end
