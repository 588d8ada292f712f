/- An act on both sides: kind R5. -/
import Derived.Test.YtenhgkhonaglaaaDoorJ1
import Derived.Test.YtenhgkhonaglaaaDoorJ2
import Derived.Test.YtenhgkhonaglaaaDoorJ3
import Derived.Test.YtenhgkhonaglaaaDoorJ4
import Derived.Test.YtenhgkhonaglaaaDoorJ5
import Derived.Test.YtenhgkhonaglaaaDoorJ6
import Derived.Test.YtenhgkhonaglaaaDoorJ7
import Derived.Test.YtenhgkhonaglaaaDoorJ8
import Derived.Test.YtenhgkhonaglaaaDoorJ9
import Derived.Test.YtenhgkhonaglaaaDoorJ10
import Derived.Test.YtenhgkhonaglaaaDoorJ11
import Derived.Test.YtenhgkhonaglaaaDoorJ13
namespace Go.Proofs.YtenhgkhonaglaaaDoor
set_option maxRecDepth 100000
open Go.RowKit
namespace Row
open Utf Wid

set_option maxHeartbeats 8000000 in
theorem step_size5_F (R C : Int) (l m r : List Cl) (q : Look) (dd i k n : Int) (x v : Value) (w : World) (xr xc : Int) (s1 s2 : Bool) (hx : Rm w x l) (hv : Rm w v r) (hl : l.length ≤ 1000000) (hm : m.length ≤ 1000000)
    (HG : Hid (∀ w', Below w.heap.size w w' → Calls Tryd.prog 6 #[.agg #[.int .i64 R, .int .i64 C, x]] w' fun e w'' => e = .returned (.bool true) ∧ Below w'.heap.size w' w''))
    (HCK : Hid (∀ y w', Rm w' y l → Calls Tryd.prog 31 #[.agg #[.int .i64 R, .int .i64 C, y]] w' fun e w'' => e = .returned (.int .i64 0) ∧ Below w'.heap.size w' w''))
    (HAT : Hid (∀ w', Calls Tryd.prog 13 #[.agg #[.int .i64 q.fg, .int .i64 q.bg, .int .i64 q.flags]] w' fun e w'' => e = .returned (.bool true) ∧ Below w'.heap.size w' w''))
    (HB1 : Hid (∀ w', Calls Tryd.prog 11 #[.int .i64 i, .int .i64 1, .int .i64 40] w' fun e w'' => e = .returned (.bool s1) ∧ w' = w''))
    (HB2 : Hid (∀ w', Calls Tryd.prog 11 #[.int .i64 k, .int .i64 1, .int .i64 40] w' fun e w'' => e = .returned (.bool s2) ∧ w' = w''))
    (HSZ : Hid ((s1 && s2) = true))
    (HWI : Hid (∀ w', Calls Tryd.prog 7 #[.int .i64 dd, .int .i64 9] w' fun e w'' => e = .returned (.int .i64 5) ∧ w' = w''))
    (HD : Hid (∀ y w', Rm w' y l → Tells 19 #[.agg #[.int .i64 R, .int .i64 C, y], .int .i64 i, .int .i64 k, .agg #[.int .i64 q.fg, .int .i64 q.bg, .int .i64 q.flags]] w' xr xc m 0))
    (HP : Hid (∀ w', Rm w' x l → Says 20 #[.agg #[.int .i64 R, .int .i64 C, x], .int .i64 i, .int .i64 k, .agg #[.int .i64 q.fg, .int .i64 q.bg, .int .i64 q.flags]] w' xr xc m))
    : Calls Tryd.prog 8 #[.agg #[.int .i64 R, .int .i64 C, x], .agg #[.int .i64 dd, .int .i64 i, .int .i64 k, .int .i64 n, .int .i64 q.fg, .int .i64 q.bg, .int .i64 q.flags, v]] w (Stands w xr xc m) := by
  have HX := Lib.hid hx
  have HV := Lib.hid hv
  have HCG := Lib.hid (fun w' (k : Cs w' x l) => copyGrid_any R C l x w' k (by omega))
  have HEI := Lib.hid (fun w' y (k1 : Cs w' y l) (k2 : Cs w' x l) => eqGrid_same R C l y x w' k1 k2 (by omega))
  have HEX := Lib.hid (fun w' y z (k1 : Cs w' y m) (k2 : Cs w' z m) => eqGrid_same xr xc m y z w' k1 k2 (by first | omega | simp))
  have HFA := Lib.hid (fun y base w' (k : OwnCs w' base y m) => cells_far m y base w' k (by first | omega | simp))
  have HCW := Lib.hid (fun w' y (k : Cs w' y m) => copyGrid_any xr xc m y w' k (by omega))
  have HW0 := Lib.hid (St.start w R C x dd i k n q v)
  clear hl hm
  obtain ⟨_, A, cp, rfl, _⟩ := hx
  obtain ⟨_, AV, cpv, rfl, _⟩ := hv
  go_enter Tryd.func8, Tryd.ntmps8
  go_wp2_with fail
  refine (HCG.out _ (HX.out.cs.kept HW0.out)).mono ?_; rintro e w1 ⟨vi, rfl, ho1, hb1⟩
  obtain ⟨Ai, ci, rfl⟩ := own_shape ho1
  have HS1 := Lib.hid (St.made ho1 hb1)
  clear ho1 hb1 HCG HW0
  go_upto_region 2 with (fail)
  generalize w1.alloc (gbox R C (.slice Ai l.length ci)) = wa at HS1 ⊢
  generalize w1.heap.size = b at HS1 ⊢
  have c0 : wa.cell? ⟨w.heap.size, 0, none⟩ = some (.int .i64 R) := Blk.cell HS1.out.g 0
  have c1 : wa.cell? ⟨w.heap.size, 1, none⟩ = some (.int .i64 C) := Blk.cell HS1.out.g 1
  have c2 : wa.cell? ⟨w.heap.size, 2, none⟩ = some (.slice A l.length cp) := Blk.cell HS1.out.g 2
  go_wp2_with fail
  refine (HG.out _ HS1.out.bel).mono ?_; rintro e w2 ⟨rfl, hb2⟩
  have HS2 := Lib.hid (HS1.out.kept hb2)
  clear hb2
  clear c0 c1 c2
  have a4 : w2.cell? ⟨w.heap.size + 1, 4, none⟩ = some (.int .i64 q.fg) := Blk.cell HS2.out.a 4
  have a5 : w2.cell? ⟨w.heap.size + 1, 5, none⟩ = some (.int .i64 q.bg) := Blk.cell HS2.out.a 5
  have a6 : w2.cell? ⟨w.heap.size + 1, 6, none⟩ = some (.int .i64 q.flags) := Blk.cell HS2.out.a 6
  go_wp2_with fail
  refine (HAT.out _).mono ?_; rintro e w3 ⟨rfl, hb3⟩
  have HS3 := Lib.hid (HS2.out.kept hb3)
  clear hb3
  clear a4 a5 a6
  go_upto_region 7 with (fail)
  have HS4 := Lib.hid (St2.made HS3.out)
  generalize (w3.alloc (gbox 0 0 (.slice none 0 0))).alloc (gbox 0 0 (.slice none 0 0)) = w4 at HS4 ⊢
  generalize w3.heap.size = p at HS4 ⊢
  have a1 : w4.cell? ⟨w.heap.size + 1, 1, none⟩ = some (.int .i64 i) := Blk.cell HS4.out.one.a 1
  have a2 : w4.cell? ⟨w.heap.size + 1, 2, none⟩ = some (.int .i64 k) := Blk.cell HS4.out.one.a 2
  go_cut [13] (fun s13 wx => s13 = .bool true ∧ wx = w4)
  case first =>
    have hsz := HSZ.out
    cases s1
    · go_wp2_with fail
      refine (HB1.out _).mono ?_; rintro e wn ⟨rfl, rfl⟩
      go_wp2_with fail
      go_meet
      exact ⟨by rw [← hsz] <;> rfl, rfl⟩
    · go_wp2_with fail
      refine (HB1.out _).mono ?_; rintro e wn ⟨rfl, rfl⟩
      go_wp2_with fail
      refine (HB2.out _).mono ?_; rintro e wn ⟨rfl, rfl⟩
      go_wp2_with fail
      go_meet
      exact ⟨by rw [← hsz] <;> rfl, rfl⟩
  case rest =>
    obtain ⟨rfl, hwc⟩ := hcut
    rw [hwc]
    clear hwc HB1 HB2 HSZ HG HAT
    clear a1 a2
    have a0 : w4.cell? ⟨w.heap.size + 1, 0, none⟩ = some (.int .i64 dd) := Blk.cell HS4.out.one.a 0
    go_wp2_with fail
    refine (HWI.out _).mono ?_; rintro e wn ⟨rfl, rfl⟩
    clear a0
    have i0 : w4.cell? ⟨b, 0, none⟩ = some (.int .i64 R) := Blk.cell HS4.out.one.i 0
    have i1 : w4.cell? ⟨b, 1, none⟩ = some (.int .i64 C) := Blk.cell HS4.out.one.i 1
    have i2 : w4.cell? ⟨b, 2, none⟩ = some (.slice Ai l.length ci) := Blk.cell HS4.out.one.i 2
    have a1 : w4.cell? ⟨w.heap.size + 1, 1, none⟩ = some (.int .i64 i) := Blk.cell HS4.out.one.a 1
    have a2 : w4.cell? ⟨w.heap.size + 1, 2, none⟩ = some (.int .i64 k) := Blk.cell HS4.out.one.a 2
    have a4 : w4.cell? ⟨w.heap.size + 1, 4, none⟩ = some (.int .i64 q.fg) := Blk.cell HS4.out.one.a 4
    have a5 : w4.cell? ⟨w.heap.size + 1, 5, none⟩ = some (.int .i64 q.bg) := Blk.cell HS4.out.one.a 5
    have a6 : w4.cell? ⟨w.heap.size + 1, 6, none⟩ = some (.int .i64 q.flags) := Blk.cell HS4.out.one.a 6
    go_wp2_with fail
    refine (HD.out _ _ HS4.out.one.o.rm).mono ?_; rintro e w5 ⟨vx, rfl, ho5, hb5⟩
    obtain ⟨Ax, cxx, rfl⟩ : ∃ A c, vx = .slice A m.length c := own_shape ho5
    have HFI := Lib.hid (apart2 ho5 HS4.out.one.o)
    have HPB := Lib.hid HS4.out.size
    have HXO5 := Lib.hid ho5
    have HBA := Lib.hid HS4.out.one.bel.size
    have HS5 := Lib.hid (HS4.out.kept hb5)
    clear ho5 hb5
    clear i0 i1 i2 a1 a2 a4 a5 a6
    have x0 : w5.cell? ⟨p, 0, none⟩ = some (.int .i64 0) := Blk.cell HS5.out.x 0
    have x1 : w5.cell? ⟨p, 1, none⟩ = some (.int .i64 0) := Blk.cell HS5.out.x 1
    have x2 : w5.cell? ⟨p, 2, none⟩ = some (.slice none 0 0) := Blk.cell HS5.out.x 2
    have xf0 : w5.frozen? ⟨p, 0, none⟩ = false := Blk.free HS5.out.x 0
    have xf1 : w5.frozen? ⟨p, 1, none⟩ = false := Blk.free HS5.out.x 1
    have xf2 : w5.frozen? ⟨p, 2, none⟩ = false := Blk.free HS5.out.x 2
    go_upto_region 27 with (fail)
    have HS6 := Lib.hid (HS5.out.putX xr xc (.slice Ax m.length cxx))
    have HXO6 := Lib.hid (gput_far HXO5.out HS5.out.x xr xc (.slice Ax m.length cxx))
    unfold gput at HS6 HXO6
    clear x0 x1 x2 xf0 xf1 xf2
    generalize ((w5.setCell ⟨p, 0, none⟩ (.int .i64 xr)).setCell ⟨p, 1, none⟩ (.int .i64 xc)).setCell ⟨p, 2, none⟩ (.slice Ax m.length cxx) = w6 at HS6 HXO6 ⊢
    have c0 : w6.cell? ⟨w.heap.size, 0, none⟩ = some (.int .i64 R) := Blk.cell HS6.out.one.g 0
    have c1 : w6.cell? ⟨w.heap.size, 1, none⟩ = some (.int .i64 C) := Blk.cell HS6.out.one.g 1
    have c2 : w6.cell? ⟨w.heap.size, 2, none⟩ = some (.slice A l.length cp) := Blk.cell HS6.out.one.g 2
    have a1 : w6.cell? ⟨w.heap.size + 1, 1, none⟩ = some (.int .i64 i) := Blk.cell HS6.out.one.a 1
    have a2 : w6.cell? ⟨w.heap.size + 1, 2, none⟩ = some (.int .i64 k) := Blk.cell HS6.out.one.a 2
    have a4 : w6.cell? ⟨w.heap.size + 1, 4, none⟩ = some (.int .i64 q.fg) := Blk.cell HS6.out.one.a 4
    have a5 : w6.cell? ⟨w.heap.size + 1, 5, none⟩ = some (.int .i64 q.bg) := Blk.cell HS6.out.one.a 5
    have a6 : w6.cell? ⟨w.heap.size + 1, 6, none⟩ = some (.int .i64 q.flags) := Blk.cell HS6.out.one.a 6
    go_wp2_with fail
    refine (HP.out _ (HX.out.kept HS6.out.one.bel)).mono ?_; rintro e w8 ⟨vy, rfl, ho8, hb8⟩
    obtain ⟨Ay, cyx, rfl⟩ : ∃ A c, vy = .slice A m.length c := own_shape ho8
    have HAP := Lib.hid (apart ho8 HXO6.out)
    have HYO7 := Lib.hid ho8
    have HS7 := Lib.hid (HS6.out.kept hb8)
    have HXO7 := Lib.hid (HXO6.out.kept hb8)
    clear hb8
    clear c0 c1 c2 a1 a2 a4 a5 a6
    clear ho8
    have y0 : w8.cell? ⟨p + 1, 0, none⟩ = some (.int .i64 0) := Blk.cell HS7.out.y 0
    have y1 : w8.cell? ⟨p + 1, 1, none⟩ = some (.int .i64 0) := Blk.cell HS7.out.y 1
    have y2 : w8.cell? ⟨p + 1, 2, none⟩ = some (.slice none 0 0) := Blk.cell HS7.out.y 2
    have yf0 : w8.frozen? ⟨p + 1, 0, none⟩ = false := Blk.free HS7.out.y 0
    have yf1 : w8.frozen? ⟨p + 1, 1, none⟩ = false := Blk.free HS7.out.y 1
    have yf2 : w8.frozen? ⟨p + 1, 2, none⟩ = false := Blk.free HS7.out.y 2
    go_upto_region 45 with (fail)
    have HS8 := Lib.hid (HS7.out.putY xr xc (.slice Ay m.length cyx))
    have HXO8 := Lib.hid (gput_far HXO7.out HS7.out.y xr xc (.slice Ay m.length cyx))
    have HYO8 := Lib.hid (gput_far HYO7.out HS7.out.y xr xc (.slice Ay m.length cyx))
    unfold gput at HS8 HXO8 HYO8
    clear y0 y1 y2 yf0 yf1 yf2
    generalize ((w8.setCell ⟨p + 1, 0, none⟩ (.int .i64 xr)).setCell ⟨p + 1, 1, none⟩ (.int .i64 xc)).setCell ⟨p + 1, 2, none⟩ (.slice Ay m.length cyx) = w9 at HS8 HXO8 HYO8 ⊢
    have x0 : w9.cell? ⟨p, 0, none⟩ = some (.int .i64 xr) := Blk.cell HS8.out.x 0
    have x1 : w9.cell? ⟨p, 1, none⟩ = some (.int .i64 xc) := Blk.cell HS8.out.x 1
    have x2 : w9.cell? ⟨p, 2, none⟩ = some (.slice Ax m.length cxx) := Blk.cell HS8.out.x 2
    have y0 : w9.cell? ⟨p + 1, 0, none⟩ = some (.int .i64 xr) := Blk.cell HS8.out.y 0
    have y1 : w9.cell? ⟨p + 1, 1, none⟩ = some (.int .i64 xc) := Blk.cell HS8.out.y 1
    have y2 : w9.cell? ⟨p + 1, 2, none⟩ = some (.slice Ay m.length cyx) := Blk.cell HS8.out.y 2
    have i0 : w9.cell? ⟨b, 0, none⟩ = some (.int .i64 R) := Blk.cell HS8.out.one.i 0
    have i1 : w9.cell? ⟨b, 1, none⟩ = some (.int .i64 C) := Blk.cell HS8.out.one.i 1
    have i2 : w9.cell? ⟨b, 2, none⟩ = some (.slice Ai l.length ci) := Blk.cell HS8.out.one.i 2
    have c0 : w9.cell? ⟨w.heap.size, 0, none⟩ = some (.int .i64 R) := Blk.cell HS8.out.one.g 0
    have c1 : w9.cell? ⟨w.heap.size, 1, none⟩ = some (.int .i64 C) := Blk.cell HS8.out.one.g 1
    have c2 : w9.cell? ⟨w.heap.size, 2, none⟩ = some (.slice A l.length cp) := Blk.cell HS8.out.one.g 2
    go_wp2_with fail
    refine (num_eq _ _).mono ?_; rintro e wn ⟨rfl, rfl⟩
    go_wp2_with fail
    refine (HEX.out _ _ _ HXO8.out.cs HYO8.out.cs).mono ?_; rintro e w10 ⟨rfl, hb10⟩
    have HS9 := Lib.hid (HS8.out.kept hb10)
    have HXO9 := Lib.hid (HXO8.out.kept hb10)
    have HYO9 := Lib.hid (HYO8.out.kept hb10)
    clear hb10
    clear x0 x1 x2 y0 y1 y2 i0 i1 i2 c0 c1 c2
    have i0 : w10.cell? ⟨b, 0, none⟩ = some (.int .i64 R) := Blk.cell HS9.out.one.i 0
    have i1 : w10.cell? ⟨b, 1, none⟩ = some (.int .i64 C) := Blk.cell HS9.out.one.i 1
    have i2 : w10.cell? ⟨b, 2, none⟩ = some (.slice Ai l.length ci) := Blk.cell HS9.out.one.i 2
    have c0 : w10.cell? ⟨w.heap.size, 0, none⟩ = some (.int .i64 R) := Blk.cell HS9.out.one.g 0
    have c1 : w10.cell? ⟨w.heap.size, 1, none⟩ = some (.int .i64 C) := Blk.cell HS9.out.one.g 1
    have c2 : w10.cell? ⟨w.heap.size, 2, none⟩ = some (.slice A l.length cp) := Blk.cell HS9.out.one.g 2
    go_wp2_with fail
    refine (HEI.out _ _ HS9.out.one.o.cs (HX.out.cs.kept HS9.out.one.bel)).mono ?_; rintro e w11 ⟨rfl, hb11⟩
    have HS10 := Lib.hid (HS9.out.kept hb11)
    have HXO10 := Lib.hid (HXO9.out.kept hb11)
    have HYO10 := Lib.hid (HYO9.out.kept hb11)
    clear hb11
    clear i0 i1 i2 c0 c1 c2
    have i0 : w11.cell? ⟨b, 0, none⟩ = some (.int .i64 R) := Blk.cell HS10.out.one.i 0
    have i1 : w11.cell? ⟨b, 1, none⟩ = some (.int .i64 C) := Blk.cell HS10.out.one.i 1
    have i2 : w11.cell? ⟨b, 2, none⟩ = some (.slice Ai l.length ci) := Blk.cell HS10.out.one.i 2
    have c0 : w11.cell? ⟨w.heap.size, 0, none⟩ = some (.int .i64 R) := Blk.cell HS10.out.one.g 0
    have c1 : w11.cell? ⟨w.heap.size, 1, none⟩ = some (.int .i64 C) := Blk.cell HS10.out.one.g 1
    have c2 : w11.cell? ⟨w.heap.size, 2, none⟩ = some (.slice A l.length cp) := Blk.cell HS10.out.one.g 2
    go_wp2_with fail
    refine (HCK.out _ _ HS10.out.one.o.rm).mono ?_; rintro e w12 ⟨rfl, hb12⟩
    have HS11 := Lib.hid (HS10.out.kept hb12)
    have HXO11 := Lib.hid (HXO10.out.kept hb12)
    have HYO11 := Lib.hid (HYO10.out.kept hb12)
    clear hb12
    clear i0 i1 i2 c0 c1 c2
    have x0 : w12.cell? ⟨p, 0, none⟩ = some (.int .i64 xr) := Blk.cell HS11.out.x 0
    have x1 : w12.cell? ⟨p, 1, none⟩ = some (.int .i64 xc) := Blk.cell HS11.out.x 1
    have x2 : w12.cell? ⟨p, 2, none⟩ = some (.slice Ax m.length cxx) := Blk.cell HS11.out.x 2
    have i0 : w12.cell? ⟨b, 0, none⟩ = some (.int .i64 R) := Blk.cell HS11.out.one.i 0
    have i1 : w12.cell? ⟨b, 1, none⟩ = some (.int .i64 C) := Blk.cell HS11.out.one.i 1
    have i2 : w12.cell? ⟨b, 2, none⟩ = some (.slice Ai l.length ci) := Blk.cell HS11.out.one.i 2
    have c0 : w12.cell? ⟨w.heap.size, 0, none⟩ = some (.int .i64 R) := Blk.cell HS11.out.one.g 0
    have c1 : w12.cell? ⟨w.heap.size, 1, none⟩ = some (.int .i64 C) := Blk.cell HS11.out.one.g 1
    have c2 : w12.cell? ⟨w.heap.size, 2, none⟩ = some (.slice A l.length cp) := Blk.cell HS11.out.one.g 2
    go_wp2_with fail
    refine (num_eq _ _).mono ?_; rintro e wn ⟨rfl, rfl⟩
    go_wp2_with fail
    refine (HFA.out _ _ _ HXO11.out).mono ?_; rintro e w13 ⟨rfl, hb13, hfar⟩
    have HS12 := Lib.hid (HS11.out.far hb13 HPB.out (hfar _ _ _ HFI.out HS11.out.one.o))
    have HYO12 := Lib.hid (hfar _ _ _ HAP.out HYO11.out)
    clear x0 x1 x2 i0 i1 i2 c0 c1 c2
    clear hb13 hfar
    have i0 : w13.cell? ⟨b, 0, none⟩ = some (.int .i64 R) := Blk.cell HS12.out.one.i 0
    have i1 : w13.cell? ⟨b, 1, none⟩ = some (.int .i64 C) := Blk.cell HS12.out.one.i 1
    have i2 : w13.cell? ⟨b, 2, none⟩ = some (.slice Ai l.length ci) := Blk.cell HS12.out.one.i 2
    have c0 : w13.cell? ⟨w.heap.size, 0, none⟩ = some (.int .i64 R) := Blk.cell HS12.out.one.g 0
    have c1 : w13.cell? ⟨w.heap.size, 1, none⟩ = some (.int .i64 C) := Blk.cell HS12.out.one.g 1
    have c2 : w13.cell? ⟨w.heap.size, 2, none⟩ = some (.slice A l.length cp) := Blk.cell HS12.out.one.g 2
    go_wp2_with fail
    refine (HEI.out _ _ HS12.out.one.o.cs (HX.out.cs.kept HS12.out.one.bel)).mono ?_; rintro e w14 ⟨rfl, hb14⟩
    have HS13 := Lib.hid (HS12.out.kept hb14)
    have HYO13 := Lib.hid (HYO12.out.kept hb14)
    clear hb14
    clear i0 i1 i2 c0 c1 c2
    have y0 : w14.cell? ⟨p + 1, 0, none⟩ = some (.int .i64 xr) := Blk.cell HS13.out.y 0
    have y1 : w14.cell? ⟨p + 1, 1, none⟩ = some (.int .i64 xc) := Blk.cell HS13.out.y 1
    have y2 : w14.cell? ⟨p + 1, 2, none⟩ = some (.slice Ay m.length cyx) := Blk.cell HS13.out.y 2
    go_wp2_with fail
    refine (HCW.out _ _ HYO13.out.cs).mono ?_; rintro e w15 ⟨vr, rfl, ho15, hb15⟩
    obtain ⟨Ar, crx, rfl⟩ : ∃ A c, vr = .slice A m.length c := own_shape ho15
    have HSS := Lib.hid HS13.out.one.lo
    have HSB := Lib.hid HS13.out.size
    have HSL := Lib.hid HS13.out.lt
    have HRO := Lib.hid ho15
    have HS14 := Lib.hid (HS13.out.kept hb15)
    clear hb15
    clear y0 y1 y2
    clear ho15
    obtain ⟨z0, z1, z2, zf0, zf1, zf2⟩ := gzero HS14.out.one.z
    have HF := Lib.hid (gput_box HS14.out.one.z xr xc (.slice Ar m.length crx))
    have HB8 : Hid (Below w.heap.size w (gput w15 (w.heap.size + 2) xr xc (.slice Ar m.length crx))) := Lib.hid (gput_below HS14.out.one.bel (by omega) _ _ _)
    have HO8 : Hid (Rm (gput w15 (w.heap.size + 2) xr xc (.slice Ar m.length crx)) (.slice Ar m.length crx) m) := Lib.hid (gput_own HRO.out (by have := HSS.out; have := HSB.out; have := HSL.out; omega) _ _ _).rm
    go_wp2_with fail
    show bodyPost _ _ _ _ _ (gput w15 (w.heap.size + 2) xr xc (.slice Ar m.length crx))
    clear z0 z1 z2 zf0 zf1 zf2
    generalize gput w15 (w.heap.size + 2) xr xc (.slice Ar m.length crx) = wF at HF HO8 HB8 ⊢
    have z0 : wF.cell? ⟨w.heap.size + 1 + 1, 0, none⟩ = some (.int .i64 xr) := Blk.cell HF.out 0
    have z1 : wF.cell? ⟨w.heap.size + 1 + 1, 1, none⟩ = some (.int .i64 xc) := Blk.cell HF.out 1
    have z2 : wF.cell? ⟨w.heap.size + 1 + 1, 2, none⟩ = some (.slice Ar m.length crx) := Blk.cell HF.out 2
    exact bodyPost_ret (v := .tuple #[.agg #[.int .i64 xr, .int .i64 xc, .slice Ar m.length crx], .bool true]) (by simp [results, Tryd.results8, go_sem, z0, z1, z2]) rfl ⟨_, rfl, HO8.out, HB8.out⟩
set_option maxHeartbeats 8000000 in
theorem step_size5_B0 (R C : Int) (l r : List Cl) (q : Look) (dd i k n : Int) (x v : Value) (w : World) (pen s1 s2 sz : Bool) (hx : Rm w x l) (hv : Rm w v r) (hl : l.length ≤ 1000000)
    (HG : Hid (∀ w', Below w.heap.size w w' → Calls Tryd.prog 6 #[.agg #[.int .i64 R, .int .i64 C, x]] w' fun e w'' => e = .returned (.bool false) ∧ Below w'.heap.size w' w''))
    (HCK : Hid (∀ y w', Rm w' y l → Calls Tryd.prog 31 #[.agg #[.int .i64 R, .int .i64 C, y]] w' fun e w'' => e = .returned (.int .i64 1) ∧ Below w'.heap.size w' w''))
    (HAT : Hid (∀ w', Calls Tryd.prog 13 #[.agg #[.int .i64 q.fg, .int .i64 q.bg, .int .i64 q.flags]] w' fun e w'' => e = .returned (.bool pen) ∧ Below w'.heap.size w' w''))
    (HB1 : Hid (∀ w', Calls Tryd.prog 11 #[.int .i64 i, .int .i64 1, .int .i64 40] w' fun e w'' => e = .returned (.bool s1) ∧ w' = w''))
    (HB2 : Hid (∀ w', Calls Tryd.prog 11 #[.int .i64 k, .int .i64 1, .int .i64 40] w' fun e w'' => e = .returned (.bool s2) ∧ w' = w''))
    (HSZ : Hid ((s1 && s2) = sz))
    (HWI : Hid (∀ w', Calls Tryd.prog 7 #[.int .i64 dd, .int .i64 9] w' fun e w'' => e = .returned (.int .i64 5) ∧ w' = w''))
    (HD : Hid (∀ y w', Rm w' y l → Tells 19 #[.agg #[.int .i64 R, .int .i64 C, y], .int .i64 i, .int .i64 k, .agg #[.int .i64 q.fg, .int .i64 q.bg, .int .i64 q.flags]] w' 0 0 [] 1))
    : Calls Tryd.prog 8 #[.agg #[.int .i64 R, .int .i64 C, x], .agg #[.int .i64 dd, .int .i64 i, .int .i64 k, .int .i64 n, .int .i64 q.fg, .int .i64 q.bg, .int .i64 q.flags, v]] w (Stands w R C l) := by
  have HX := Lib.hid hx
  have HV := Lib.hid hv
  have HCG := Lib.hid (fun w' (k : Cs w' x l) => copyGrid_any R C l x w' k (by omega))
  have HEI := Lib.hid (fun w' y (k1 : Cs w' y l) (k2 : Cs w' x l) => eqGrid_same R C l y x w' k1 k2 (by omega))
  have HEX := Lib.hid (fun w' y z (k1 : Cs w' y []) (k2 : Cs w' z []) => eqGrid_same 0 0 [] y z w' k1 k2 (by first | omega | simp))
  have HFA := Lib.hid (fun y base w' (k : OwnCs w' base y []) => cells_far [] y base w' k (by first | omega | simp))
  have HW0 := Lib.hid (St.start w R C x dd i k n q v)
  clear hl
  obtain ⟨_, A, cp, rfl, _⟩ := hx
  obtain ⟨_, AV, cpv, rfl, _⟩ := hv
  go_enter Tryd.func8, Tryd.ntmps8
  go_wp2_with fail
  refine (HCG.out _ (HX.out.cs.kept HW0.out)).mono ?_; rintro e w1 ⟨vi, rfl, ho1, hb1⟩
  obtain ⟨Ai, ci, rfl⟩ := own_shape ho1
  have HS1 := Lib.hid (St.made ho1 hb1)
  clear ho1 hb1 HCG HW0
  go_upto_region 2 with (fail)
  generalize w1.alloc (gbox R C (.slice Ai l.length ci)) = wa at HS1 ⊢
  generalize w1.heap.size = b at HS1 ⊢
  have c0 : wa.cell? ⟨w.heap.size, 0, none⟩ = some (.int .i64 R) := Blk.cell HS1.out.g 0
  have c1 : wa.cell? ⟨w.heap.size, 1, none⟩ = some (.int .i64 C) := Blk.cell HS1.out.g 1
  have c2 : wa.cell? ⟨w.heap.size, 2, none⟩ = some (.slice A l.length cp) := Blk.cell HS1.out.g 2
  go_wp2_with fail
  refine (HG.out _ HS1.out.bel).mono ?_; rintro e w2 ⟨rfl, hb2⟩
  have HS2 := Lib.hid (HS1.out.kept hb2)
  clear hb2
  clear c0 c1 c2
  have a4 : w2.cell? ⟨w.heap.size + 1, 4, none⟩ = some (.int .i64 q.fg) := Blk.cell HS2.out.a 4
  have a5 : w2.cell? ⟨w.heap.size + 1, 5, none⟩ = some (.int .i64 q.bg) := Blk.cell HS2.out.a 5
  have a6 : w2.cell? ⟨w.heap.size + 1, 6, none⟩ = some (.int .i64 q.flags) := Blk.cell HS2.out.a 6
  go_wp2_with fail
  refine (HAT.out _).mono ?_; rintro e w3 ⟨rfl, hb3⟩
  have HS3 := Lib.hid (HS2.out.kept hb3)
  clear hb3
  clear a4 a5 a6
  go_upto_region 7 with (fail)
  have HS4 := Lib.hid (St2.made HS3.out)
  generalize (w3.alloc (gbox 0 0 (.slice none 0 0))).alloc (gbox 0 0 (.slice none 0 0)) = w4 at HS4 ⊢
  generalize w3.heap.size = p at HS4 ⊢
  have a1 : w4.cell? ⟨w.heap.size + 1, 1, none⟩ = some (.int .i64 i) := Blk.cell HS4.out.one.a 1
  have a2 : w4.cell? ⟨w.heap.size + 1, 2, none⟩ = some (.int .i64 k) := Blk.cell HS4.out.one.a 2
  go_cut [13] (fun s13 wx => s13 = .bool sz ∧ wx = w4)
  case first =>
    have hsz := HSZ.out
    cases s1
    · go_wp2_with fail
      refine (HB1.out _).mono ?_; rintro e wn ⟨rfl, rfl⟩
      go_wp2_with fail
      go_meet
      exact ⟨by rw [← hsz] <;> rfl, rfl⟩
    · go_wp2_with fail
      refine (HB1.out _).mono ?_; rintro e wn ⟨rfl, rfl⟩
      go_wp2_with fail
      refine (HB2.out _).mono ?_; rintro e wn ⟨rfl, rfl⟩
      go_wp2_with fail
      go_meet
      exact ⟨by rw [← hsz] <;> rfl, rfl⟩
  case rest =>
    obtain ⟨rfl, hwc⟩ := hcut
    rw [hwc]
    clear hwc HB1 HB2 HSZ HG HAT
    clear a1 a2
    have a0 : w4.cell? ⟨w.heap.size + 1, 0, none⟩ = some (.int .i64 dd) := Blk.cell HS4.out.one.a 0
    go_wp2_with fail
    refine (HWI.out _).mono ?_; rintro e wn ⟨rfl, rfl⟩
    clear a0
    have i0 : w4.cell? ⟨b, 0, none⟩ = some (.int .i64 R) := Blk.cell HS4.out.one.i 0
    have i1 : w4.cell? ⟨b, 1, none⟩ = some (.int .i64 C) := Blk.cell HS4.out.one.i 1
    have i2 : w4.cell? ⟨b, 2, none⟩ = some (.slice Ai l.length ci) := Blk.cell HS4.out.one.i 2
    have a1 : w4.cell? ⟨w.heap.size + 1, 1, none⟩ = some (.int .i64 i) := Blk.cell HS4.out.one.a 1
    have a2 : w4.cell? ⟨w.heap.size + 1, 2, none⟩ = some (.int .i64 k) := Blk.cell HS4.out.one.a 2
    have a4 : w4.cell? ⟨w.heap.size + 1, 4, none⟩ = some (.int .i64 q.fg) := Blk.cell HS4.out.one.a 4
    have a5 : w4.cell? ⟨w.heap.size + 1, 5, none⟩ = some (.int .i64 q.bg) := Blk.cell HS4.out.one.a 5
    have a6 : w4.cell? ⟨w.heap.size + 1, 6, none⟩ = some (.int .i64 q.flags) := Blk.cell HS4.out.one.a 6
    go_wp2_with fail
    refine (HD.out _ _ HS4.out.one.o.rm).mono ?_; rintro e w5 ⟨vx, rfl, ho5, hb5⟩
    obtain ⟨Ax, cxx, rfl⟩ : ∃ A c, vx = .slice A 0 c := own_shape ho5
    have HFI := Lib.hid (apart2 ho5 HS4.out.one.o)
    have HPB := Lib.hid HS4.out.size
    have HXO5 := Lib.hid ho5
    have HBA := Lib.hid HS4.out.one.bel.size
    have HS5 := Lib.hid (HS4.out.kept hb5)
    clear ho5 hb5
    clear i0 i1 i2 a1 a2 a4 a5 a6
    have x0 : w5.cell? ⟨p, 0, none⟩ = some (.int .i64 0) := Blk.cell HS5.out.x 0
    have x1 : w5.cell? ⟨p, 1, none⟩ = some (.int .i64 0) := Blk.cell HS5.out.x 1
    have x2 : w5.cell? ⟨p, 2, none⟩ = some (.slice none 0 0) := Blk.cell HS5.out.x 2
    have xf0 : w5.frozen? ⟨p, 0, none⟩ = false := Blk.free HS5.out.x 0
    have xf1 : w5.frozen? ⟨p, 1, none⟩ = false := Blk.free HS5.out.x 1
    have xf2 : w5.frozen? ⟨p, 2, none⟩ = false := Blk.free HS5.out.x 2
    go_upto_region 27 with (fail)
    have HS6 := Lib.hid (HS5.out.putX 0 0 (.slice Ax 0 cxx))
    have HXO6 := Lib.hid (gput_far HXO5.out HS5.out.x 0 0 (.slice Ax 0 cxx))
    unfold gput at HS6 HXO6
    clear x0 x1 x2 xf0 xf1 xf2
    generalize ((w5.setCell ⟨p, 0, none⟩ (.int .i64 0)).setCell ⟨p, 1, none⟩ (.int .i64 0)).setCell ⟨p, 2, none⟩ (.slice Ax 0 cxx) = w6 at HS6 HXO6 ⊢
    have c0 : w6.cell? ⟨w.heap.size, 0, none⟩ = some (.int .i64 R) := Blk.cell HS6.out.one.g 0
    have c1 : w6.cell? ⟨w.heap.size, 1, none⟩ = some (.int .i64 C) := Blk.cell HS6.out.one.g 1
    have c2 : w6.cell? ⟨w.heap.size, 2, none⟩ = some (.slice A l.length cp) := Blk.cell HS6.out.one.g 2
    have a1 : w6.cell? ⟨w.heap.size + 1, 1, none⟩ = some (.int .i64 i) := Blk.cell HS6.out.one.a 1
    have a2 : w6.cell? ⟨w.heap.size + 1, 2, none⟩ = some (.int .i64 k) := Blk.cell HS6.out.one.a 2
    have a4 : w6.cell? ⟨w.heap.size + 1, 4, none⟩ = some (.int .i64 q.fg) := Blk.cell HS6.out.one.a 4
    have a5 : w6.cell? ⟨w.heap.size + 1, 5, none⟩ = some (.int .i64 q.bg) := Blk.cell HS6.out.one.a 5
    have a6 : w6.cell? ⟨w.heap.size + 1, 6, none⟩ = some (.int .i64 q.flags) := Blk.cell HS6.out.one.a 6
    go_upto_region 45 with (fail)
    clear c0 c1 c2 a1 a2 a4 a5 a6
    have x0 : w6.cell? ⟨p, 0, none⟩ = some (.int .i64 0) := Blk.cell HS6.out.x 0
    have x1 : w6.cell? ⟨p, 1, none⟩ = some (.int .i64 0) := Blk.cell HS6.out.x 1
    have x2 : w6.cell? ⟨p, 2, none⟩ = some (.slice Ax 0 cxx) := Blk.cell HS6.out.x 2
    have y0 : w6.cell? ⟨p + 1, 0, none⟩ = some (.int .i64 0) := Blk.cell HS6.out.y 0
    have y1 : w6.cell? ⟨p + 1, 1, none⟩ = some (.int .i64 0) := Blk.cell HS6.out.y 1
    have y2 : w6.cell? ⟨p + 1, 2, none⟩ = some (.slice none 0 0) := Blk.cell HS6.out.y 2
    have i0 : w6.cell? ⟨b, 0, none⟩ = some (.int .i64 R) := Blk.cell HS6.out.one.i 0
    have i1 : w6.cell? ⟨b, 1, none⟩ = some (.int .i64 C) := Blk.cell HS6.out.one.i 1
    have i2 : w6.cell? ⟨b, 2, none⟩ = some (.slice Ai l.length ci) := Blk.cell HS6.out.one.i 2
    have c0 : w6.cell? ⟨w.heap.size, 0, none⟩ = some (.int .i64 R) := Blk.cell HS6.out.one.g 0
    have c1 : w6.cell? ⟨w.heap.size, 1, none⟩ = some (.int .i64 C) := Blk.cell HS6.out.one.g 1
    have c2 : w6.cell? ⟨w.heap.size, 2, none⟩ = some (.slice A l.length cp) := Blk.cell HS6.out.one.g 2
    go_wp2_with fail
    refine (num_eq _ _).mono ?_; rintro e wn ⟨rfl, rfl⟩
    go_wp2_with fail
    refine (HEX.out _ _ _ HXO6.out.cs (Cs.nil _)).mono ?_; rintro e w10 ⟨rfl, hb10⟩
    have HS7 := Lib.hid (HS6.out.kept hb10)
    have HXO7 := Lib.hid (HXO6.out.kept hb10)
    clear hb10
    clear x0 x1 x2 y0 y1 y2 i0 i1 i2 c0 c1 c2
    have i0 : w10.cell? ⟨b, 0, none⟩ = some (.int .i64 R) := Blk.cell HS7.out.one.i 0
    have i1 : w10.cell? ⟨b, 1, none⟩ = some (.int .i64 C) := Blk.cell HS7.out.one.i 1
    have i2 : w10.cell? ⟨b, 2, none⟩ = some (.slice Ai l.length ci) := Blk.cell HS7.out.one.i 2
    have c0 : w10.cell? ⟨w.heap.size, 0, none⟩ = some (.int .i64 R) := Blk.cell HS7.out.one.g 0
    have c1 : w10.cell? ⟨w.heap.size, 1, none⟩ = some (.int .i64 C) := Blk.cell HS7.out.one.g 1
    have c2 : w10.cell? ⟨w.heap.size, 2, none⟩ = some (.slice A l.length cp) := Blk.cell HS7.out.one.g 2
    go_wp2_with fail
    refine (HEI.out _ _ HS7.out.one.o.cs (HX.out.cs.kept HS7.out.one.bel)).mono ?_; rintro e w11 ⟨rfl, hb11⟩
    have HS8 := Lib.hid (HS7.out.kept hb11)
    have HXO8 := Lib.hid (HXO7.out.kept hb11)
    clear hb11
    clear i0 i1 i2 c0 c1 c2
    have i0 : w11.cell? ⟨b, 0, none⟩ = some (.int .i64 R) := Blk.cell HS8.out.one.i 0
    have i1 : w11.cell? ⟨b, 1, none⟩ = some (.int .i64 C) := Blk.cell HS8.out.one.i 1
    have i2 : w11.cell? ⟨b, 2, none⟩ = some (.slice Ai l.length ci) := Blk.cell HS8.out.one.i 2
    have c0 : w11.cell? ⟨w.heap.size, 0, none⟩ = some (.int .i64 R) := Blk.cell HS8.out.one.g 0
    have c1 : w11.cell? ⟨w.heap.size, 1, none⟩ = some (.int .i64 C) := Blk.cell HS8.out.one.g 1
    have c2 : w11.cell? ⟨w.heap.size, 2, none⟩ = some (.slice A l.length cp) := Blk.cell HS8.out.one.g 2
    go_wp2_with fail
    refine (HCK.out _ _ HS8.out.one.o.rm).mono ?_; rintro e w12 ⟨rfl, hb12⟩
    have HS9 := Lib.hid (HS8.out.kept hb12)
    have HXO9 := Lib.hid (HXO8.out.kept hb12)
    clear hb12
    clear i0 i1 i2 c0 c1 c2
    have x0 : w12.cell? ⟨p, 0, none⟩ = some (.int .i64 0) := Blk.cell HS9.out.x 0
    have x1 : w12.cell? ⟨p, 1, none⟩ = some (.int .i64 0) := Blk.cell HS9.out.x 1
    have x2 : w12.cell? ⟨p, 2, none⟩ = some (.slice Ax 0 cxx) := Blk.cell HS9.out.x 2
    have i0 : w12.cell? ⟨b, 0, none⟩ = some (.int .i64 R) := Blk.cell HS9.out.one.i 0
    have i1 : w12.cell? ⟨b, 1, none⟩ = some (.int .i64 C) := Blk.cell HS9.out.one.i 1
    have i2 : w12.cell? ⟨b, 2, none⟩ = some (.slice Ai l.length ci) := Blk.cell HS9.out.one.i 2
    have c0 : w12.cell? ⟨w.heap.size, 0, none⟩ = some (.int .i64 R) := Blk.cell HS9.out.one.g 0
    have c1 : w12.cell? ⟨w.heap.size, 1, none⟩ = some (.int .i64 C) := Blk.cell HS9.out.one.g 1
    have c2 : w12.cell? ⟨w.heap.size, 2, none⟩ = some (.slice A l.length cp) := Blk.cell HS9.out.one.g 2
    go_wp2_with fail
    refine (num_eq _ _).mono ?_; rintro e wn ⟨rfl, rfl⟩
    go_wp2_with fail
    refine (HFA.out _ _ _ HXO9.out).mono ?_; rintro e w13 ⟨rfl, hb13, hfar⟩
    have HS10 := Lib.hid (HS9.out.far hb13 HPB.out (hfar _ _ _ HFI.out HS9.out.one.o))
    clear x0 x1 x2 i0 i1 i2 c0 c1 c2
    clear hb13 hfar
    have i0 : w13.cell? ⟨b, 0, none⟩ = some (.int .i64 R) := Blk.cell HS10.out.one.i 0
    have i1 : w13.cell? ⟨b, 1, none⟩ = some (.int .i64 C) := Blk.cell HS10.out.one.i 1
    have i2 : w13.cell? ⟨b, 2, none⟩ = some (.slice Ai l.length ci) := Blk.cell HS10.out.one.i 2
    have c0 : w13.cell? ⟨w.heap.size, 0, none⟩ = some (.int .i64 R) := Blk.cell HS10.out.one.g 0
    have c1 : w13.cell? ⟨w.heap.size, 1, none⟩ = some (.int .i64 C) := Blk.cell HS10.out.one.g 1
    have c2 : w13.cell? ⟨w.heap.size, 2, none⟩ = some (.slice A l.length cp) := Blk.cell HS10.out.one.g 2
    go_wp2_with fail
    refine (HEI.out _ _ HS10.out.one.o.cs (HX.out.cs.kept HS10.out.one.bel)).mono ?_; rintro e w14 ⟨rfl, hb14⟩
    have HS11 := Lib.hid (HS10.out.kept hb14)
    clear hb14
    clear i0 i1 i2 c0 c1 c2
    obtain ⟨z0, z1, z2, zf0, zf1, zf2⟩ := gzero HS11.out.one.z
    have c0 : w14.cell? ⟨w.heap.size, 0, none⟩ = some (.int .i64 R) := Blk.cell HS11.out.one.g 0
    have c1 : w14.cell? ⟨w.heap.size, 1, none⟩ = some (.int .i64 C) := Blk.cell HS11.out.one.g 1
    have c2 : w14.cell? ⟨w.heap.size, 2, none⟩ = some (.slice A l.length cp) := Blk.cell HS11.out.one.g 2
    have HF := Lib.hid (gput_box HS11.out.one.z R C (.slice A l.length cp))
    have HB8 : Hid (Below w.heap.size w (gput w14 (w.heap.size + 2) R C (.slice A l.length cp))) := Lib.hid (gput_below HS11.out.one.bel (by omega) _ _ _)
    have HO8 : Hid (Rm (gput w14 (w.heap.size + 2) R C (.slice A l.length cp)) (.slice A l.length cp) l) := Lib.hid (HX.out.kept HB8.out)
    go_wp2_with fail
    show bodyPost _ _ _ _ _ (gput w14 (w.heap.size + 2) R C (.slice A l.length cp))
    clear z0 z1 z2 zf0 zf1 zf2 c0 c1 c2
    generalize gput w14 (w.heap.size + 2) R C (.slice A l.length cp) = wF at HF HO8 HB8 ⊢
    have z0 : wF.cell? ⟨w.heap.size + 1 + 1, 0, none⟩ = some (.int .i64 R) := Blk.cell HF.out 0
    have z1 : wF.cell? ⟨w.heap.size + 1 + 1, 1, none⟩ = some (.int .i64 C) := Blk.cell HF.out 1
    have z2 : wF.cell? ⟨w.heap.size + 1 + 1, 2, none⟩ = some (.slice A l.length cp) := Blk.cell HF.out 2
    exact bodyPost_ret (v := .tuple #[.agg #[.int .i64 R, .int .i64 C, .slice A l.length cp], .bool true]) (by simp [results, Tryd.results8, go_sem, z0, z1, z2]) rfl ⟨_, rfl, HO8.out, HB8.out⟩
set_option maxHeartbeats 8000000 in
theorem step_size5_B1 (R C : Int) (l r : List Cl) (q : Look) (dd i k n : Int) (x v : Value) (w : World) (s1 s2 sz : Bool) (hx : Rm w x l) (hv : Rm w v r) (hl : l.length ≤ 1000000)
    (HG : Hid (∀ w', Below w.heap.size w w' → Calls Tryd.prog 6 #[.agg #[.int .i64 R, .int .i64 C, x]] w' fun e w'' => e = .returned (.bool true) ∧ Below w'.heap.size w' w''))
    (HCK : Hid (∀ y w', Rm w' y l → Calls Tryd.prog 31 #[.agg #[.int .i64 R, .int .i64 C, y]] w' fun e w'' => e = .returned (.int .i64 0) ∧ Below w'.heap.size w' w''))
    (HAT : Hid (∀ w', Calls Tryd.prog 13 #[.agg #[.int .i64 q.fg, .int .i64 q.bg, .int .i64 q.flags]] w' fun e w'' => e = .returned (.bool false) ∧ Below w'.heap.size w' w''))
    (HB1 : Hid (∀ w', Calls Tryd.prog 11 #[.int .i64 i, .int .i64 1, .int .i64 40] w' fun e w'' => e = .returned (.bool s1) ∧ w' = w''))
    (HB2 : Hid (∀ w', Calls Tryd.prog 11 #[.int .i64 k, .int .i64 1, .int .i64 40] w' fun e w'' => e = .returned (.bool s2) ∧ w' = w''))
    (HSZ : Hid ((s1 && s2) = sz))
    (HWI : Hid (∀ w', Calls Tryd.prog 7 #[.int .i64 dd, .int .i64 9] w' fun e w'' => e = .returned (.int .i64 5) ∧ w' = w''))
    (HD : Hid (∀ y w', Rm w' y l → Tells 19 #[.agg #[.int .i64 R, .int .i64 C, y], .int .i64 i, .int .i64 k, .agg #[.int .i64 q.fg, .int .i64 q.bg, .int .i64 q.flags]] w' 0 0 [] 1))
    : Calls Tryd.prog 8 #[.agg #[.int .i64 R, .int .i64 C, x], .agg #[.int .i64 dd, .int .i64 i, .int .i64 k, .int .i64 n, .int .i64 q.fg, .int .i64 q.bg, .int .i64 q.flags, v]] w (Stands w R C l) := by
  have HX := Lib.hid hx
  have HV := Lib.hid hv
  have HCG := Lib.hid (fun w' (k : Cs w' x l) => copyGrid_any R C l x w' k (by omega))
  have HEI := Lib.hid (fun w' y (k1 : Cs w' y l) (k2 : Cs w' x l) => eqGrid_same R C l y x w' k1 k2 (by omega))
  have HEX := Lib.hid (fun w' y z (k1 : Cs w' y []) (k2 : Cs w' z []) => eqGrid_same 0 0 [] y z w' k1 k2 (by first | omega | simp))
  have HFA := Lib.hid (fun y base w' (k : OwnCs w' base y []) => cells_far [] y base w' k (by first | omega | simp))
  have HW0 := Lib.hid (St.start w R C x dd i k n q v)
  clear hl
  obtain ⟨_, A, cp, rfl, _⟩ := hx
  obtain ⟨_, AV, cpv, rfl, _⟩ := hv
  go_enter Tryd.func8, Tryd.ntmps8
  go_wp2_with fail
  refine (HCG.out _ (HX.out.cs.kept HW0.out)).mono ?_; rintro e w1 ⟨vi, rfl, ho1, hb1⟩
  obtain ⟨Ai, ci, rfl⟩ := own_shape ho1
  have HS1 := Lib.hid (St.made ho1 hb1)
  clear ho1 hb1 HCG HW0
  go_upto_region 2 with (fail)
  generalize w1.alloc (gbox R C (.slice Ai l.length ci)) = wa at HS1 ⊢
  generalize w1.heap.size = b at HS1 ⊢
  have c0 : wa.cell? ⟨w.heap.size, 0, none⟩ = some (.int .i64 R) := Blk.cell HS1.out.g 0
  have c1 : wa.cell? ⟨w.heap.size, 1, none⟩ = some (.int .i64 C) := Blk.cell HS1.out.g 1
  have c2 : wa.cell? ⟨w.heap.size, 2, none⟩ = some (.slice A l.length cp) := Blk.cell HS1.out.g 2
  go_wp2_with fail
  refine (HG.out _ HS1.out.bel).mono ?_; rintro e w2 ⟨rfl, hb2⟩
  have HS2 := Lib.hid (HS1.out.kept hb2)
  clear hb2
  clear c0 c1 c2
  have a4 : w2.cell? ⟨w.heap.size + 1, 4, none⟩ = some (.int .i64 q.fg) := Blk.cell HS2.out.a 4
  have a5 : w2.cell? ⟨w.heap.size + 1, 5, none⟩ = some (.int .i64 q.bg) := Blk.cell HS2.out.a 5
  have a6 : w2.cell? ⟨w.heap.size + 1, 6, none⟩ = some (.int .i64 q.flags) := Blk.cell HS2.out.a 6
  go_wp2_with fail
  refine (HAT.out _).mono ?_; rintro e w3 ⟨rfl, hb3⟩
  have HS3 := Lib.hid (HS2.out.kept hb3)
  clear hb3
  clear a4 a5 a6
  go_upto_region 7 with (fail)
  have HS4 := Lib.hid (St2.made HS3.out)
  generalize (w3.alloc (gbox 0 0 (.slice none 0 0))).alloc (gbox 0 0 (.slice none 0 0)) = w4 at HS4 ⊢
  generalize w3.heap.size = p at HS4 ⊢
  have a1 : w4.cell? ⟨w.heap.size + 1, 1, none⟩ = some (.int .i64 i) := Blk.cell HS4.out.one.a 1
  have a2 : w4.cell? ⟨w.heap.size + 1, 2, none⟩ = some (.int .i64 k) := Blk.cell HS4.out.one.a 2
  go_cut [13] (fun s13 wx => s13 = .bool sz ∧ wx = w4)
  case first =>
    have hsz := HSZ.out
    cases s1
    · go_wp2_with fail
      refine (HB1.out _).mono ?_; rintro e wn ⟨rfl, rfl⟩
      go_wp2_with fail
      go_meet
      exact ⟨by rw [← hsz] <;> rfl, rfl⟩
    · go_wp2_with fail
      refine (HB1.out _).mono ?_; rintro e wn ⟨rfl, rfl⟩
      go_wp2_with fail
      refine (HB2.out _).mono ?_; rintro e wn ⟨rfl, rfl⟩
      go_wp2_with fail
      go_meet
      exact ⟨by rw [← hsz] <;> rfl, rfl⟩
  case rest =>
    obtain ⟨rfl, hwc⟩ := hcut
    rw [hwc]
    clear hwc HB1 HB2 HSZ HG HAT
    clear a1 a2
    have a0 : w4.cell? ⟨w.heap.size + 1, 0, none⟩ = some (.int .i64 dd) := Blk.cell HS4.out.one.a 0
    go_wp2_with fail
    refine (HWI.out _).mono ?_; rintro e wn ⟨rfl, rfl⟩
    clear a0
    have i0 : w4.cell? ⟨b, 0, none⟩ = some (.int .i64 R) := Blk.cell HS4.out.one.i 0
    have i1 : w4.cell? ⟨b, 1, none⟩ = some (.int .i64 C) := Blk.cell HS4.out.one.i 1
    have i2 : w4.cell? ⟨b, 2, none⟩ = some (.slice Ai l.length ci) := Blk.cell HS4.out.one.i 2
    have a1 : w4.cell? ⟨w.heap.size + 1, 1, none⟩ = some (.int .i64 i) := Blk.cell HS4.out.one.a 1
    have a2 : w4.cell? ⟨w.heap.size + 1, 2, none⟩ = some (.int .i64 k) := Blk.cell HS4.out.one.a 2
    have a4 : w4.cell? ⟨w.heap.size + 1, 4, none⟩ = some (.int .i64 q.fg) := Blk.cell HS4.out.one.a 4
    have a5 : w4.cell? ⟨w.heap.size + 1, 5, none⟩ = some (.int .i64 q.bg) := Blk.cell HS4.out.one.a 5
    have a6 : w4.cell? ⟨w.heap.size + 1, 6, none⟩ = some (.int .i64 q.flags) := Blk.cell HS4.out.one.a 6
    go_wp2_with fail
    refine (HD.out _ _ HS4.out.one.o.rm).mono ?_; rintro e w5 ⟨vx, rfl, ho5, hb5⟩
    obtain ⟨Ax, cxx, rfl⟩ : ∃ A c, vx = .slice A 0 c := own_shape ho5
    have HFI := Lib.hid (apart2 ho5 HS4.out.one.o)
    have HPB := Lib.hid HS4.out.size
    have HXO5 := Lib.hid ho5
    have HBA := Lib.hid HS4.out.one.bel.size
    have HS5 := Lib.hid (HS4.out.kept hb5)
    clear ho5 hb5
    clear i0 i1 i2 a1 a2 a4 a5 a6
    have x0 : w5.cell? ⟨p, 0, none⟩ = some (.int .i64 0) := Blk.cell HS5.out.x 0
    have x1 : w5.cell? ⟨p, 1, none⟩ = some (.int .i64 0) := Blk.cell HS5.out.x 1
    have x2 : w5.cell? ⟨p, 2, none⟩ = some (.slice none 0 0) := Blk.cell HS5.out.x 2
    have xf0 : w5.frozen? ⟨p, 0, none⟩ = false := Blk.free HS5.out.x 0
    have xf1 : w5.frozen? ⟨p, 1, none⟩ = false := Blk.free HS5.out.x 1
    have xf2 : w5.frozen? ⟨p, 2, none⟩ = false := Blk.free HS5.out.x 2
    go_upto_region 27 with (fail)
    have HS6 := Lib.hid (HS5.out.putX 0 0 (.slice Ax 0 cxx))
    have HXO6 := Lib.hid (gput_far HXO5.out HS5.out.x 0 0 (.slice Ax 0 cxx))
    unfold gput at HS6 HXO6
    clear x0 x1 x2 xf0 xf1 xf2
    generalize ((w5.setCell ⟨p, 0, none⟩ (.int .i64 0)).setCell ⟨p, 1, none⟩ (.int .i64 0)).setCell ⟨p, 2, none⟩ (.slice Ax 0 cxx) = w6 at HS6 HXO6 ⊢
    have c0 : w6.cell? ⟨w.heap.size, 0, none⟩ = some (.int .i64 R) := Blk.cell HS6.out.one.g 0
    have c1 : w6.cell? ⟨w.heap.size, 1, none⟩ = some (.int .i64 C) := Blk.cell HS6.out.one.g 1
    have c2 : w6.cell? ⟨w.heap.size, 2, none⟩ = some (.slice A l.length cp) := Blk.cell HS6.out.one.g 2
    have a1 : w6.cell? ⟨w.heap.size + 1, 1, none⟩ = some (.int .i64 i) := Blk.cell HS6.out.one.a 1
    have a2 : w6.cell? ⟨w.heap.size + 1, 2, none⟩ = some (.int .i64 k) := Blk.cell HS6.out.one.a 2
    have a4 : w6.cell? ⟨w.heap.size + 1, 4, none⟩ = some (.int .i64 q.fg) := Blk.cell HS6.out.one.a 4
    have a5 : w6.cell? ⟨w.heap.size + 1, 5, none⟩ = some (.int .i64 q.bg) := Blk.cell HS6.out.one.a 5
    have a6 : w6.cell? ⟨w.heap.size + 1, 6, none⟩ = some (.int .i64 q.flags) := Blk.cell HS6.out.one.a 6
    go_upto_region 45 with (fail)
    clear c0 c1 c2 a1 a2 a4 a5 a6
    have x0 : w6.cell? ⟨p, 0, none⟩ = some (.int .i64 0) := Blk.cell HS6.out.x 0
    have x1 : w6.cell? ⟨p, 1, none⟩ = some (.int .i64 0) := Blk.cell HS6.out.x 1
    have x2 : w6.cell? ⟨p, 2, none⟩ = some (.slice Ax 0 cxx) := Blk.cell HS6.out.x 2
    have y0 : w6.cell? ⟨p + 1, 0, none⟩ = some (.int .i64 0) := Blk.cell HS6.out.y 0
    have y1 : w6.cell? ⟨p + 1, 1, none⟩ = some (.int .i64 0) := Blk.cell HS6.out.y 1
    have y2 : w6.cell? ⟨p + 1, 2, none⟩ = some (.slice none 0 0) := Blk.cell HS6.out.y 2
    have i0 : w6.cell? ⟨b, 0, none⟩ = some (.int .i64 R) := Blk.cell HS6.out.one.i 0
    have i1 : w6.cell? ⟨b, 1, none⟩ = some (.int .i64 C) := Blk.cell HS6.out.one.i 1
    have i2 : w6.cell? ⟨b, 2, none⟩ = some (.slice Ai l.length ci) := Blk.cell HS6.out.one.i 2
    have c0 : w6.cell? ⟨w.heap.size, 0, none⟩ = some (.int .i64 R) := Blk.cell HS6.out.one.g 0
    have c1 : w6.cell? ⟨w.heap.size, 1, none⟩ = some (.int .i64 C) := Blk.cell HS6.out.one.g 1
    have c2 : w6.cell? ⟨w.heap.size, 2, none⟩ = some (.slice A l.length cp) := Blk.cell HS6.out.one.g 2
    go_wp2_with fail
    refine (num_eq _ _).mono ?_; rintro e wn ⟨rfl, rfl⟩
    go_wp2_with fail
    refine (HEX.out _ _ _ HXO6.out.cs (Cs.nil _)).mono ?_; rintro e w10 ⟨rfl, hb10⟩
    have HS7 := Lib.hid (HS6.out.kept hb10)
    have HXO7 := Lib.hid (HXO6.out.kept hb10)
    clear hb10
    clear x0 x1 x2 y0 y1 y2 i0 i1 i2 c0 c1 c2
    have i0 : w10.cell? ⟨b, 0, none⟩ = some (.int .i64 R) := Blk.cell HS7.out.one.i 0
    have i1 : w10.cell? ⟨b, 1, none⟩ = some (.int .i64 C) := Blk.cell HS7.out.one.i 1
    have i2 : w10.cell? ⟨b, 2, none⟩ = some (.slice Ai l.length ci) := Blk.cell HS7.out.one.i 2
    have c0 : w10.cell? ⟨w.heap.size, 0, none⟩ = some (.int .i64 R) := Blk.cell HS7.out.one.g 0
    have c1 : w10.cell? ⟨w.heap.size, 1, none⟩ = some (.int .i64 C) := Blk.cell HS7.out.one.g 1
    have c2 : w10.cell? ⟨w.heap.size, 2, none⟩ = some (.slice A l.length cp) := Blk.cell HS7.out.one.g 2
    go_wp2_with fail
    refine (HEI.out _ _ HS7.out.one.o.cs (HX.out.cs.kept HS7.out.one.bel)).mono ?_; rintro e w11 ⟨rfl, hb11⟩
    have HS8 := Lib.hid (HS7.out.kept hb11)
    have HXO8 := Lib.hid (HXO7.out.kept hb11)
    clear hb11
    clear i0 i1 i2 c0 c1 c2
    have i0 : w11.cell? ⟨b, 0, none⟩ = some (.int .i64 R) := Blk.cell HS8.out.one.i 0
    have i1 : w11.cell? ⟨b, 1, none⟩ = some (.int .i64 C) := Blk.cell HS8.out.one.i 1
    have i2 : w11.cell? ⟨b, 2, none⟩ = some (.slice Ai l.length ci) := Blk.cell HS8.out.one.i 2
    have c0 : w11.cell? ⟨w.heap.size, 0, none⟩ = some (.int .i64 R) := Blk.cell HS8.out.one.g 0
    have c1 : w11.cell? ⟨w.heap.size, 1, none⟩ = some (.int .i64 C) := Blk.cell HS8.out.one.g 1
    have c2 : w11.cell? ⟨w.heap.size, 2, none⟩ = some (.slice A l.length cp) := Blk.cell HS8.out.one.g 2
    go_wp2_with fail
    refine (HCK.out _ _ HS8.out.one.o.rm).mono ?_; rintro e w12 ⟨rfl, hb12⟩
    have HS9 := Lib.hid (HS8.out.kept hb12)
    have HXO9 := Lib.hid (HXO8.out.kept hb12)
    clear hb12
    clear i0 i1 i2 c0 c1 c2
    have x0 : w12.cell? ⟨p, 0, none⟩ = some (.int .i64 0) := Blk.cell HS9.out.x 0
    have x1 : w12.cell? ⟨p, 1, none⟩ = some (.int .i64 0) := Blk.cell HS9.out.x 1
    have x2 : w12.cell? ⟨p, 2, none⟩ = some (.slice Ax 0 cxx) := Blk.cell HS9.out.x 2
    have i0 : w12.cell? ⟨b, 0, none⟩ = some (.int .i64 R) := Blk.cell HS9.out.one.i 0
    have i1 : w12.cell? ⟨b, 1, none⟩ = some (.int .i64 C) := Blk.cell HS9.out.one.i 1
    have i2 : w12.cell? ⟨b, 2, none⟩ = some (.slice Ai l.length ci) := Blk.cell HS9.out.one.i 2
    have c0 : w12.cell? ⟨w.heap.size, 0, none⟩ = some (.int .i64 R) := Blk.cell HS9.out.one.g 0
    have c1 : w12.cell? ⟨w.heap.size, 1, none⟩ = some (.int .i64 C) := Blk.cell HS9.out.one.g 1
    have c2 : w12.cell? ⟨w.heap.size, 2, none⟩ = some (.slice A l.length cp) := Blk.cell HS9.out.one.g 2
    go_wp2_with fail
    refine (num_eq _ _).mono ?_; rintro e wn ⟨rfl, rfl⟩
    go_wp2_with fail
    refine (HFA.out _ _ _ HXO9.out).mono ?_; rintro e w13 ⟨rfl, hb13, hfar⟩
    have HS10 := Lib.hid (HS9.out.far hb13 HPB.out (hfar _ _ _ HFI.out HS9.out.one.o))
    clear x0 x1 x2 i0 i1 i2 c0 c1 c2
    clear hb13 hfar
    have i0 : w13.cell? ⟨b, 0, none⟩ = some (.int .i64 R) := Blk.cell HS10.out.one.i 0
    have i1 : w13.cell? ⟨b, 1, none⟩ = some (.int .i64 C) := Blk.cell HS10.out.one.i 1
    have i2 : w13.cell? ⟨b, 2, none⟩ = some (.slice Ai l.length ci) := Blk.cell HS10.out.one.i 2
    have c0 : w13.cell? ⟨w.heap.size, 0, none⟩ = some (.int .i64 R) := Blk.cell HS10.out.one.g 0
    have c1 : w13.cell? ⟨w.heap.size, 1, none⟩ = some (.int .i64 C) := Blk.cell HS10.out.one.g 1
    have c2 : w13.cell? ⟨w.heap.size, 2, none⟩ = some (.slice A l.length cp) := Blk.cell HS10.out.one.g 2
    go_wp2_with fail
    refine (HEI.out _ _ HS10.out.one.o.cs (HX.out.cs.kept HS10.out.one.bel)).mono ?_; rintro e w14 ⟨rfl, hb14⟩
    have HS11 := Lib.hid (HS10.out.kept hb14)
    clear hb14
    clear i0 i1 i2 c0 c1 c2
    obtain ⟨z0, z1, z2, zf0, zf1, zf2⟩ := gzero HS11.out.one.z
    have c0 : w14.cell? ⟨w.heap.size, 0, none⟩ = some (.int .i64 R) := Blk.cell HS11.out.one.g 0
    have c1 : w14.cell? ⟨w.heap.size, 1, none⟩ = some (.int .i64 C) := Blk.cell HS11.out.one.g 1
    have c2 : w14.cell? ⟨w.heap.size, 2, none⟩ = some (.slice A l.length cp) := Blk.cell HS11.out.one.g 2
    have HF := Lib.hid (gput_box HS11.out.one.z R C (.slice A l.length cp))
    have HB8 : Hid (Below w.heap.size w (gput w14 (w.heap.size + 2) R C (.slice A l.length cp))) := Lib.hid (gput_below HS11.out.one.bel (by omega) _ _ _)
    have HO8 : Hid (Rm (gput w14 (w.heap.size + 2) R C (.slice A l.length cp)) (.slice A l.length cp) l) := Lib.hid (HX.out.kept HB8.out)
    go_wp2_with fail
    show bodyPost _ _ _ _ _ (gput w14 (w.heap.size + 2) R C (.slice A l.length cp))
    clear z0 z1 z2 zf0 zf1 zf2 c0 c1 c2
    generalize gput w14 (w.heap.size + 2) R C (.slice A l.length cp) = wF at HF HO8 HB8 ⊢
    have z0 : wF.cell? ⟨w.heap.size + 1 + 1, 0, none⟩ = some (.int .i64 R) := Blk.cell HF.out 0
    have z1 : wF.cell? ⟨w.heap.size + 1 + 1, 1, none⟩ = some (.int .i64 C) := Blk.cell HF.out 1
    have z2 : wF.cell? ⟨w.heap.size + 1 + 1, 2, none⟩ = some (.slice A l.length cp) := Blk.cell HF.out 2
    exact bodyPost_ret (v := .tuple #[.agg #[.int .i64 R, .int .i64 C, .slice A l.length cp], .bool true]) (by simp [results, Tryd.results8, go_sem, z0, z1, z2]) rfl ⟨_, rfl, HO8.out, HB8.out⟩
set_option maxHeartbeats 8000000 in
theorem step_size5_B2 (R C : Int) (l r : List Cl) (q : Look) (dd i k n : Int) (x v : Value) (w : World) (s1 s2 : Bool) (hx : Rm w x l) (hv : Rm w v r) (hl : l.length ≤ 1000000)
    (HG : Hid (∀ w', Below w.heap.size w w' → Calls Tryd.prog 6 #[.agg #[.int .i64 R, .int .i64 C, x]] w' fun e w'' => e = .returned (.bool true) ∧ Below w'.heap.size w' w''))
    (HCK : Hid (∀ y w', Rm w' y l → Calls Tryd.prog 31 #[.agg #[.int .i64 R, .int .i64 C, y]] w' fun e w'' => e = .returned (.int .i64 0) ∧ Below w'.heap.size w' w''))
    (HAT : Hid (∀ w', Calls Tryd.prog 13 #[.agg #[.int .i64 q.fg, .int .i64 q.bg, .int .i64 q.flags]] w' fun e w'' => e = .returned (.bool true) ∧ Below w'.heap.size w' w''))
    (HB1 : Hid (∀ w', Calls Tryd.prog 11 #[.int .i64 i, .int .i64 1, .int .i64 40] w' fun e w'' => e = .returned (.bool s1) ∧ w' = w''))
    (HB2 : Hid (∀ w', Calls Tryd.prog 11 #[.int .i64 k, .int .i64 1, .int .i64 40] w' fun e w'' => e = .returned (.bool s2) ∧ w' = w''))
    (HSZ : Hid ((s1 && s2) = false))
    (HWI : Hid (∀ w', Calls Tryd.prog 7 #[.int .i64 dd, .int .i64 9] w' fun e w'' => e = .returned (.int .i64 5) ∧ w' = w''))
    (HD : Hid (∀ y w', Rm w' y l → Tells 19 #[.agg #[.int .i64 R, .int .i64 C, y], .int .i64 i, .int .i64 k, .agg #[.int .i64 q.fg, .int .i64 q.bg, .int .i64 q.flags]] w' 0 0 [] 1))
    : Calls Tryd.prog 8 #[.agg #[.int .i64 R, .int .i64 C, x], .agg #[.int .i64 dd, .int .i64 i, .int .i64 k, .int .i64 n, .int .i64 q.fg, .int .i64 q.bg, .int .i64 q.flags, v]] w (Stands w R C l) := by
  have HX := Lib.hid hx
  have HV := Lib.hid hv
  have HCG := Lib.hid (fun w' (k : Cs w' x l) => copyGrid_any R C l x w' k (by omega))
  have HEI := Lib.hid (fun w' y (k1 : Cs w' y l) (k2 : Cs w' x l) => eqGrid_same R C l y x w' k1 k2 (by omega))
  have HEX := Lib.hid (fun w' y z (k1 : Cs w' y []) (k2 : Cs w' z []) => eqGrid_same 0 0 [] y z w' k1 k2 (by first | omega | simp))
  have HFA := Lib.hid (fun y base w' (k : OwnCs w' base y []) => cells_far [] y base w' k (by first | omega | simp))
  have HW0 := Lib.hid (St.start w R C x dd i k n q v)
  clear hl
  obtain ⟨_, A, cp, rfl, _⟩ := hx
  obtain ⟨_, AV, cpv, rfl, _⟩ := hv
  go_enter Tryd.func8, Tryd.ntmps8
  go_wp2_with fail
  refine (HCG.out _ (HX.out.cs.kept HW0.out)).mono ?_; rintro e w1 ⟨vi, rfl, ho1, hb1⟩
  obtain ⟨Ai, ci, rfl⟩ := own_shape ho1
  have HS1 := Lib.hid (St.made ho1 hb1)
  clear ho1 hb1 HCG HW0
  go_upto_region 2 with (fail)
  generalize w1.alloc (gbox R C (.slice Ai l.length ci)) = wa at HS1 ⊢
  generalize w1.heap.size = b at HS1 ⊢
  have c0 : wa.cell? ⟨w.heap.size, 0, none⟩ = some (.int .i64 R) := Blk.cell HS1.out.g 0
  have c1 : wa.cell? ⟨w.heap.size, 1, none⟩ = some (.int .i64 C) := Blk.cell HS1.out.g 1
  have c2 : wa.cell? ⟨w.heap.size, 2, none⟩ = some (.slice A l.length cp) := Blk.cell HS1.out.g 2
  go_wp2_with fail
  refine (HG.out _ HS1.out.bel).mono ?_; rintro e w2 ⟨rfl, hb2⟩
  have HS2 := Lib.hid (HS1.out.kept hb2)
  clear hb2
  clear c0 c1 c2
  have a4 : w2.cell? ⟨w.heap.size + 1, 4, none⟩ = some (.int .i64 q.fg) := Blk.cell HS2.out.a 4
  have a5 : w2.cell? ⟨w.heap.size + 1, 5, none⟩ = some (.int .i64 q.bg) := Blk.cell HS2.out.a 5
  have a6 : w2.cell? ⟨w.heap.size + 1, 6, none⟩ = some (.int .i64 q.flags) := Blk.cell HS2.out.a 6
  go_wp2_with fail
  refine (HAT.out _).mono ?_; rintro e w3 ⟨rfl, hb3⟩
  have HS3 := Lib.hid (HS2.out.kept hb3)
  clear hb3
  clear a4 a5 a6
  go_upto_region 7 with (fail)
  have HS4 := Lib.hid (St2.made HS3.out)
  generalize (w3.alloc (gbox 0 0 (.slice none 0 0))).alloc (gbox 0 0 (.slice none 0 0)) = w4 at HS4 ⊢
  generalize w3.heap.size = p at HS4 ⊢
  have a1 : w4.cell? ⟨w.heap.size + 1, 1, none⟩ = some (.int .i64 i) := Blk.cell HS4.out.one.a 1
  have a2 : w4.cell? ⟨w.heap.size + 1, 2, none⟩ = some (.int .i64 k) := Blk.cell HS4.out.one.a 2
  go_cut [13] (fun s13 wx => s13 = .bool false ∧ wx = w4)
  case first =>
    have hsz := HSZ.out
    cases s1
    · go_wp2_with fail
      refine (HB1.out _).mono ?_; rintro e wn ⟨rfl, rfl⟩
      go_wp2_with fail
      go_meet
      exact ⟨by rw [← hsz] <;> rfl, rfl⟩
    · go_wp2_with fail
      refine (HB1.out _).mono ?_; rintro e wn ⟨rfl, rfl⟩
      go_wp2_with fail
      refine (HB2.out _).mono ?_; rintro e wn ⟨rfl, rfl⟩
      go_wp2_with fail
      go_meet
      exact ⟨by rw [← hsz] <;> rfl, rfl⟩
  case rest =>
    obtain ⟨rfl, hwc⟩ := hcut
    rw [hwc]
    clear hwc HB1 HB2 HSZ HG HAT
    clear a1 a2
    have a0 : w4.cell? ⟨w.heap.size + 1, 0, none⟩ = some (.int .i64 dd) := Blk.cell HS4.out.one.a 0
    go_wp2_with fail
    refine (HWI.out _).mono ?_; rintro e wn ⟨rfl, rfl⟩
    clear a0
    have i0 : w4.cell? ⟨b, 0, none⟩ = some (.int .i64 R) := Blk.cell HS4.out.one.i 0
    have i1 : w4.cell? ⟨b, 1, none⟩ = some (.int .i64 C) := Blk.cell HS4.out.one.i 1
    have i2 : w4.cell? ⟨b, 2, none⟩ = some (.slice Ai l.length ci) := Blk.cell HS4.out.one.i 2
    have a1 : w4.cell? ⟨w.heap.size + 1, 1, none⟩ = some (.int .i64 i) := Blk.cell HS4.out.one.a 1
    have a2 : w4.cell? ⟨w.heap.size + 1, 2, none⟩ = some (.int .i64 k) := Blk.cell HS4.out.one.a 2
    have a4 : w4.cell? ⟨w.heap.size + 1, 4, none⟩ = some (.int .i64 q.fg) := Blk.cell HS4.out.one.a 4
    have a5 : w4.cell? ⟨w.heap.size + 1, 5, none⟩ = some (.int .i64 q.bg) := Blk.cell HS4.out.one.a 5
    have a6 : w4.cell? ⟨w.heap.size + 1, 6, none⟩ = some (.int .i64 q.flags) := Blk.cell HS4.out.one.a 6
    go_wp2_with fail
    refine (HD.out _ _ HS4.out.one.o.rm).mono ?_; rintro e w5 ⟨vx, rfl, ho5, hb5⟩
    obtain ⟨Ax, cxx, rfl⟩ : ∃ A c, vx = .slice A 0 c := own_shape ho5
    have HFI := Lib.hid (apart2 ho5 HS4.out.one.o)
    have HPB := Lib.hid HS4.out.size
    have HXO5 := Lib.hid ho5
    have HBA := Lib.hid HS4.out.one.bel.size
    have HS5 := Lib.hid (HS4.out.kept hb5)
    clear ho5 hb5
    clear i0 i1 i2 a1 a2 a4 a5 a6
    have x0 : w5.cell? ⟨p, 0, none⟩ = some (.int .i64 0) := Blk.cell HS5.out.x 0
    have x1 : w5.cell? ⟨p, 1, none⟩ = some (.int .i64 0) := Blk.cell HS5.out.x 1
    have x2 : w5.cell? ⟨p, 2, none⟩ = some (.slice none 0 0) := Blk.cell HS5.out.x 2
    have xf0 : w5.frozen? ⟨p, 0, none⟩ = false := Blk.free HS5.out.x 0
    have xf1 : w5.frozen? ⟨p, 1, none⟩ = false := Blk.free HS5.out.x 1
    have xf2 : w5.frozen? ⟨p, 2, none⟩ = false := Blk.free HS5.out.x 2
    go_upto_region 27 with (fail)
    have HS6 := Lib.hid (HS5.out.putX 0 0 (.slice Ax 0 cxx))
    have HXO6 := Lib.hid (gput_far HXO5.out HS5.out.x 0 0 (.slice Ax 0 cxx))
    unfold gput at HS6 HXO6
    clear x0 x1 x2 xf0 xf1 xf2
    generalize ((w5.setCell ⟨p, 0, none⟩ (.int .i64 0)).setCell ⟨p, 1, none⟩ (.int .i64 0)).setCell ⟨p, 2, none⟩ (.slice Ax 0 cxx) = w6 at HS6 HXO6 ⊢
    have c0 : w6.cell? ⟨w.heap.size, 0, none⟩ = some (.int .i64 R) := Blk.cell HS6.out.one.g 0
    have c1 : w6.cell? ⟨w.heap.size, 1, none⟩ = some (.int .i64 C) := Blk.cell HS6.out.one.g 1
    have c2 : w6.cell? ⟨w.heap.size, 2, none⟩ = some (.slice A l.length cp) := Blk.cell HS6.out.one.g 2
    have a1 : w6.cell? ⟨w.heap.size + 1, 1, none⟩ = some (.int .i64 i) := Blk.cell HS6.out.one.a 1
    have a2 : w6.cell? ⟨w.heap.size + 1, 2, none⟩ = some (.int .i64 k) := Blk.cell HS6.out.one.a 2
    have a4 : w6.cell? ⟨w.heap.size + 1, 4, none⟩ = some (.int .i64 q.fg) := Blk.cell HS6.out.one.a 4
    have a5 : w6.cell? ⟨w.heap.size + 1, 5, none⟩ = some (.int .i64 q.bg) := Blk.cell HS6.out.one.a 5
    have a6 : w6.cell? ⟨w.heap.size + 1, 6, none⟩ = some (.int .i64 q.flags) := Blk.cell HS6.out.one.a 6
    go_upto_region 45 with (fail)
    clear c0 c1 c2 a1 a2 a4 a5 a6
    have x0 : w6.cell? ⟨p, 0, none⟩ = some (.int .i64 0) := Blk.cell HS6.out.x 0
    have x1 : w6.cell? ⟨p, 1, none⟩ = some (.int .i64 0) := Blk.cell HS6.out.x 1
    have x2 : w6.cell? ⟨p, 2, none⟩ = some (.slice Ax 0 cxx) := Blk.cell HS6.out.x 2
    have y0 : w6.cell? ⟨p + 1, 0, none⟩ = some (.int .i64 0) := Blk.cell HS6.out.y 0
    have y1 : w6.cell? ⟨p + 1, 1, none⟩ = some (.int .i64 0) := Blk.cell HS6.out.y 1
    have y2 : w6.cell? ⟨p + 1, 2, none⟩ = some (.slice none 0 0) := Blk.cell HS6.out.y 2
    have i0 : w6.cell? ⟨b, 0, none⟩ = some (.int .i64 R) := Blk.cell HS6.out.one.i 0
    have i1 : w6.cell? ⟨b, 1, none⟩ = some (.int .i64 C) := Blk.cell HS6.out.one.i 1
    have i2 : w6.cell? ⟨b, 2, none⟩ = some (.slice Ai l.length ci) := Blk.cell HS6.out.one.i 2
    have c0 : w6.cell? ⟨w.heap.size, 0, none⟩ = some (.int .i64 R) := Blk.cell HS6.out.one.g 0
    have c1 : w6.cell? ⟨w.heap.size, 1, none⟩ = some (.int .i64 C) := Blk.cell HS6.out.one.g 1
    have c2 : w6.cell? ⟨w.heap.size, 2, none⟩ = some (.slice A l.length cp) := Blk.cell HS6.out.one.g 2
    go_wp2_with fail
    refine (num_eq _ _).mono ?_; rintro e wn ⟨rfl, rfl⟩
    go_wp2_with fail
    refine (HEX.out _ _ _ HXO6.out.cs (Cs.nil _)).mono ?_; rintro e w10 ⟨rfl, hb10⟩
    have HS7 := Lib.hid (HS6.out.kept hb10)
    have HXO7 := Lib.hid (HXO6.out.kept hb10)
    clear hb10
    clear x0 x1 x2 y0 y1 y2 i0 i1 i2 c0 c1 c2
    have i0 : w10.cell? ⟨b, 0, none⟩ = some (.int .i64 R) := Blk.cell HS7.out.one.i 0
    have i1 : w10.cell? ⟨b, 1, none⟩ = some (.int .i64 C) := Blk.cell HS7.out.one.i 1
    have i2 : w10.cell? ⟨b, 2, none⟩ = some (.slice Ai l.length ci) := Blk.cell HS7.out.one.i 2
    have c0 : w10.cell? ⟨w.heap.size, 0, none⟩ = some (.int .i64 R) := Blk.cell HS7.out.one.g 0
    have c1 : w10.cell? ⟨w.heap.size, 1, none⟩ = some (.int .i64 C) := Blk.cell HS7.out.one.g 1
    have c2 : w10.cell? ⟨w.heap.size, 2, none⟩ = some (.slice A l.length cp) := Blk.cell HS7.out.one.g 2
    go_wp2_with fail
    refine (HEI.out _ _ HS7.out.one.o.cs (HX.out.cs.kept HS7.out.one.bel)).mono ?_; rintro e w11 ⟨rfl, hb11⟩
    have HS8 := Lib.hid (HS7.out.kept hb11)
    have HXO8 := Lib.hid (HXO7.out.kept hb11)
    clear hb11
    clear i0 i1 i2 c0 c1 c2
    have i0 : w11.cell? ⟨b, 0, none⟩ = some (.int .i64 R) := Blk.cell HS8.out.one.i 0
    have i1 : w11.cell? ⟨b, 1, none⟩ = some (.int .i64 C) := Blk.cell HS8.out.one.i 1
    have i2 : w11.cell? ⟨b, 2, none⟩ = some (.slice Ai l.length ci) := Blk.cell HS8.out.one.i 2
    have c0 : w11.cell? ⟨w.heap.size, 0, none⟩ = some (.int .i64 R) := Blk.cell HS8.out.one.g 0
    have c1 : w11.cell? ⟨w.heap.size, 1, none⟩ = some (.int .i64 C) := Blk.cell HS8.out.one.g 1
    have c2 : w11.cell? ⟨w.heap.size, 2, none⟩ = some (.slice A l.length cp) := Blk.cell HS8.out.one.g 2
    go_wp2_with fail
    refine (HCK.out _ _ HS8.out.one.o.rm).mono ?_; rintro e w12 ⟨rfl, hb12⟩
    have HS9 := Lib.hid (HS8.out.kept hb12)
    have HXO9 := Lib.hid (HXO8.out.kept hb12)
    clear hb12
    clear i0 i1 i2 c0 c1 c2
    have x0 : w12.cell? ⟨p, 0, none⟩ = some (.int .i64 0) := Blk.cell HS9.out.x 0
    have x1 : w12.cell? ⟨p, 1, none⟩ = some (.int .i64 0) := Blk.cell HS9.out.x 1
    have x2 : w12.cell? ⟨p, 2, none⟩ = some (.slice Ax 0 cxx) := Blk.cell HS9.out.x 2
    have i0 : w12.cell? ⟨b, 0, none⟩ = some (.int .i64 R) := Blk.cell HS9.out.one.i 0
    have i1 : w12.cell? ⟨b, 1, none⟩ = some (.int .i64 C) := Blk.cell HS9.out.one.i 1
    have i2 : w12.cell? ⟨b, 2, none⟩ = some (.slice Ai l.length ci) := Blk.cell HS9.out.one.i 2
    have c0 : w12.cell? ⟨w.heap.size, 0, none⟩ = some (.int .i64 R) := Blk.cell HS9.out.one.g 0
    have c1 : w12.cell? ⟨w.heap.size, 1, none⟩ = some (.int .i64 C) := Blk.cell HS9.out.one.g 1
    have c2 : w12.cell? ⟨w.heap.size, 2, none⟩ = some (.slice A l.length cp) := Blk.cell HS9.out.one.g 2
    go_wp2_with fail
    refine (num_eq _ _).mono ?_; rintro e wn ⟨rfl, rfl⟩
    go_wp2_with fail
    refine (HFA.out _ _ _ HXO9.out).mono ?_; rintro e w13 ⟨rfl, hb13, hfar⟩
    have HS10 := Lib.hid (HS9.out.far hb13 HPB.out (hfar _ _ _ HFI.out HS9.out.one.o))
    clear x0 x1 x2 i0 i1 i2 c0 c1 c2
    clear hb13 hfar
    have i0 : w13.cell? ⟨b, 0, none⟩ = some (.int .i64 R) := Blk.cell HS10.out.one.i 0
    have i1 : w13.cell? ⟨b, 1, none⟩ = some (.int .i64 C) := Blk.cell HS10.out.one.i 1
    have i2 : w13.cell? ⟨b, 2, none⟩ = some (.slice Ai l.length ci) := Blk.cell HS10.out.one.i 2
    have c0 : w13.cell? ⟨w.heap.size, 0, none⟩ = some (.int .i64 R) := Blk.cell HS10.out.one.g 0
    have c1 : w13.cell? ⟨w.heap.size, 1, none⟩ = some (.int .i64 C) := Blk.cell HS10.out.one.g 1
    have c2 : w13.cell? ⟨w.heap.size, 2, none⟩ = some (.slice A l.length cp) := Blk.cell HS10.out.one.g 2
    go_wp2_with fail
    refine (HEI.out _ _ HS10.out.one.o.cs (HX.out.cs.kept HS10.out.one.bel)).mono ?_; rintro e w14 ⟨rfl, hb14⟩
    have HS11 := Lib.hid (HS10.out.kept hb14)
    clear hb14
    clear i0 i1 i2 c0 c1 c2
    obtain ⟨z0, z1, z2, zf0, zf1, zf2⟩ := gzero HS11.out.one.z
    have c0 : w14.cell? ⟨w.heap.size, 0, none⟩ = some (.int .i64 R) := Blk.cell HS11.out.one.g 0
    have c1 : w14.cell? ⟨w.heap.size, 1, none⟩ = some (.int .i64 C) := Blk.cell HS11.out.one.g 1
    have c2 : w14.cell? ⟨w.heap.size, 2, none⟩ = some (.slice A l.length cp) := Blk.cell HS11.out.one.g 2
    have HF := Lib.hid (gput_box HS11.out.one.z R C (.slice A l.length cp))
    have HB8 : Hid (Below w.heap.size w (gput w14 (w.heap.size + 2) R C (.slice A l.length cp))) := Lib.hid (gput_below HS11.out.one.bel (by omega) _ _ _)
    have HO8 : Hid (Rm (gput w14 (w.heap.size + 2) R C (.slice A l.length cp)) (.slice A l.length cp) l) := Lib.hid (HX.out.kept HB8.out)
    go_wp2_with fail
    show bodyPost _ _ _ _ _ (gput w14 (w.heap.size + 2) R C (.slice A l.length cp))
    clear z0 z1 z2 zf0 zf1 zf2 c0 c1 c2
    generalize gput w14 (w.heap.size + 2) R C (.slice A l.length cp) = wF at HF HO8 HB8 ⊢
    have z0 : wF.cell? ⟨w.heap.size + 1 + 1, 0, none⟩ = some (.int .i64 R) := Blk.cell HF.out 0
    have z1 : wF.cell? ⟨w.heap.size + 1 + 1, 1, none⟩ = some (.int .i64 C) := Blk.cell HF.out 1
    have z2 : wF.cell? ⟨w.heap.size + 1 + 1, 2, none⟩ = some (.slice A l.length cp) := Blk.cell HF.out 2
    exact bodyPost_ret (v := .tuple #[.agg #[.int .i64 R, .int .i64 C, .slice A l.length cp], .bool true]) (by simp [results, Tryd.results8, go_sem, z0, z1, z2]) rfl ⟨_, rfl, HO8.out, HB8.out⟩
end Row
end Go.Proofs.YtenhgkhonaglaaaDoor
