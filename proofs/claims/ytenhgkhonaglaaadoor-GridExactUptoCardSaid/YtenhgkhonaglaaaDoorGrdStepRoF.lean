/- An act on both sides: Row. -/
import Derived.Test.YtenhgkhonaglaaaDoorJ1
import Derived.Test.YtenhgkhonaglaaaDoorJ2
import Derived.Test.YtenhgkhonaglaaaDoorJ3
import Derived.Test.YtenhgkhonaglaaaDoorJ4
import Derived.Test.YtenhgkhonaglaaaDoorJ5
import Derived.Test.YtenhgkhonaglaaaDoorJ6
import Derived.Test.YtenhgkhonaglaaaDoorJ7
import Derived.Test.YtenhgkhonaglaaaDoorJ8
import Derived.Test.YtenhgkhonaglaaaDoorJ9
import Derived.Test.YtenhgkhonaglaaaDoorJ10
import Derived.Test.YtenhgkhonaglaaaDoorJ11
import Derived.Test.YtenhgkhonaglaaaDoorJ13
import Derived.Deep.RegionLaw
namespace Go.Proofs.YtenhgkhonaglaaaDoor
set_option maxRecDepth 100000
open Go.RowKit
namespace Row
open Utf Wid

set_option maxHeartbeats 8000000 in
theorem step_row6_F (R C : Int) (l m r : List Cl) (q : Look) (dd i k n R1 : Int) (x v : Value) (w : World) (pen s1 s2 sz : Bool) (hx : Rm w x l) (hv : Rm w v r) (hl : l.length ≤ 1000000) (hm : m.length ≤ 1000000)
    (HG : Hid (∀ w', Below w.heap.size w w' → Calls Tryd.prog 6 #[.agg #[.int .i64 R, .int .i64 C, x]] w' fun e w'' => e = .returned (.bool true) ∧ Below w'.heap.size w' w''))
    (HAT : Hid (∀ w', Calls Tryd.prog 13 #[.agg #[.int .i64 q.fg, .int .i64 q.bg, .int .i64 q.flags]] w' fun e w'' => e = .returned (.bool pen) ∧ Below w'.heap.size w' w''))
    (HB1 : Hid (∀ w', Calls Tryd.prog 11 #[.int .i64 i, .int .i64 1, .int .i64 40] w' fun e w'' => e = .returned (.bool s1) ∧ w' = w''))
    (HB2 : Hid (∀ w', Calls Tryd.prog 11 #[.int .i64 k, .int .i64 1, .int .i64 40] w' fun e w'' => e = .returned (.bool s2) ∧ w' = w''))
    (HSZ : Hid ((s1 && s2) = sz))
    (HWI : Hid (∀ w', Calls Tryd.prog 7 #[.int .i64 dd, .int .i64 9] w' fun e w'' => e = .returned (.int .i64 6) ∧ w' = w''))
    (HD : Hid (∀ y w', Rm w' y l → Calls Tryd.prog 21 #[.agg #[.int .i64 R, .int .i64 C, y], .int .i64 i] w' fun e w'' => ∃ u, e = .returned (.tuple #[u, .int .i64 0]) ∧ OwnCs w'' w'.heap.size u m ∧ Below w'.heap.size w' w''))
    (HNM : Hid (∀ w', Calls Tryd.prog 17 #[.int .i64 i, .int .i64 R1] w' fun e w'' => e = .returned (.bool true) ∧ w' = w''))
    (HR1 : Hid (IntKind.i64.wrap (R - 1) = R1))
    (HP : Hid (∀ w', Rm w' x l → Calls Tryd.prog 22 #[.agg #[.int .i64 R, .int .i64 C, x], .int .i64 i] w' fun e w'' => ∃ u, e = .returned u ∧ OwnCs w'' w'.heap.size u m ∧ Below w'.heap.size w' w''))
    : Calls Tryd.prog 8 #[.agg #[.int .i64 R, .int .i64 C, x], .agg #[.int .i64 dd, .int .i64 i, .int .i64 k, .int .i64 n, .int .i64 q.fg, .int .i64 q.bg, .int .i64 q.flags, v]] w (Stands w R C l) := by
  have HX := Lib.hid hx
  have HCG := Lib.hid (fun w' (k : Cs w' x l) => copyGrid_any R C l x w' k (by omega))
  have HEI := Lib.hid (fun w' y (k1 : Cs w' y l) (k2 : Cs w' x l) => eqGrid_same R C l y x w' k1 k2 (by omega))
  have HEX := Lib.hid (fun w' y z (k1 : Cs w' y m) (k2 : Cs w' z m) => eqCells_below m y z w' k1 k2 (by first | omega | simp))
  have HFA := Lib.hid (fun y base w' (k : OwnCs w' base y m) => cells_far m y base w' k (by first | omega | simp))
  have HW0 := Lib.hid (St.start w R C x dd i k n q v)
  clear hl hm
  obtain ⟨_, A, cp, rfl, _⟩ := hx
  obtain ⟨_, AV, cpv, rfl, _⟩ := hv
  go_enter Tryd.func8, Tryd.ntmps8
  go_wp2_with fail
  refine (HCG.out _ (HX.out.cs.kept HW0.out)).mono ?_; rintro e w1 ⟨vi, rfl, ho1, hb1⟩
  obtain ⟨Ai, ci, rfl⟩ := own_shape ho1
  have HS1 := Lib.hid (St.made ho1 hb1)
  clear ho1 hb1 HCG HW0
  go_upto_region 2 with (fail)
  generalize w1.alloc (gbox R C (.slice Ai l.length ci)) = wa at HS1 ⊢
  generalize w1.heap.size = b at HS1 ⊢
  have c0 : wa.cell? ⟨w.heap.size, 0, none⟩ = some (.int .i64 R) := Blk.cell HS1.out.g 0
  have c1 : wa.cell? ⟨w.heap.size, 1, none⟩ = some (.int .i64 C) := Blk.cell HS1.out.g 1
  have c2 : wa.cell? ⟨w.heap.size, 2, none⟩ = some (.slice A l.length cp) := Blk.cell HS1.out.g 2
  go_wp2_with fail
  refine (HG.out _ HS1.out.bel).mono ?_; rintro e w2 ⟨rfl, hb2⟩
  have HS2 := Lib.hid (HS1.out.kept hb2)
  clear hb2
  clear c0 c1 c2
  have a4 : w2.cell? ⟨w.heap.size + 1, 4, none⟩ = some (.int .i64 q.fg) := Blk.cell HS2.out.a 4
  have a5 : w2.cell? ⟨w.heap.size + 1, 5, none⟩ = some (.int .i64 q.bg) := Blk.cell HS2.out.a 5
  have a6 : w2.cell? ⟨w.heap.size + 1, 6, none⟩ = some (.int .i64 q.flags) := Blk.cell HS2.out.a 6
  go_wp2_with fail
  refine (HAT.out _).mono ?_; rintro e w3 ⟨rfl, hb3⟩
  have HS3 := Lib.hid (HS2.out.kept hb3)
  clear hb3
  clear a4 a5 a6
  go_upto_region 7 with (fail)
  have HS4 := Lib.hid (St2.made HS3.out)
  generalize (w3.alloc (gbox 0 0 (.slice none 0 0))).alloc (gbox 0 0 (.slice none 0 0)) = w4 at HS4 ⊢
  generalize w3.heap.size = p at HS4 ⊢
  have a1 : w4.cell? ⟨w.heap.size + 1, 1, none⟩ = some (.int .i64 i) := Blk.cell HS4.out.one.a 1
  have a2 : w4.cell? ⟨w.heap.size + 1, 2, none⟩ = some (.int .i64 k) := Blk.cell HS4.out.one.a 2
  go_cut [13] (fun s13 wx => s13 = .bool sz ∧ wx = w4)
  case first =>
    have hsz := HSZ.out
    cases s1
    · go_wp2_with fail
      refine (HB1.out _).mono ?_; rintro e wn ⟨rfl, rfl⟩
      go_wp2_with fail
      go_meet
      exact ⟨by rw [← hsz] <;> rfl, rfl⟩
    · go_wp2_with fail
      refine (HB1.out _).mono ?_; rintro e wn ⟨rfl, rfl⟩
      go_wp2_with fail
      refine (HB2.out _).mono ?_; rintro e wn ⟨rfl, rfl⟩
      go_wp2_with fail
      go_meet
      exact ⟨by rw [← hsz] <;> rfl, rfl⟩
  case rest =>
    obtain ⟨rfl, hwc⟩ := hcut
    rw [hwc]
    clear hwc HB1 HB2 HSZ HG HAT
    clear a1 a2
    have a0 : w4.cell? ⟨w.heap.size + 1, 0, none⟩ = some (.int .i64 dd) := Blk.cell HS4.out.one.a 0
    go_wp2_with fail
    refine (HWI.out _).mono ?_; rintro e wn ⟨rfl, rfl⟩
    clear a0
    have i0 : w4.cell? ⟨b, 0, none⟩ = some (.int .i64 R) := Blk.cell HS4.out.one.i 0
    have i1 : w4.cell? ⟨b, 1, none⟩ = some (.int .i64 C) := Blk.cell HS4.out.one.i 1
    have i2 : w4.cell? ⟨b, 2, none⟩ = some (.slice Ai l.length ci) := Blk.cell HS4.out.one.i 2
    have a1 : w4.cell? ⟨w.heap.size + 1, 1, none⟩ = some (.int .i64 i) := Blk.cell HS4.out.one.a 1
    go_wp2_with fail
    refine (HD.out _ _ HS4.out.one.o.rm).mono ?_; rintro e w5 ⟨vx, rfl, ho5, hb5⟩
    obtain ⟨Ax, cxx, rfl⟩ : ∃ A c, vx = .slice A m.length c := own_shape ho5
    have HFI := Lib.hid (apart2 ho5 HS4.out.one.o)
    have HPB := Lib.hid HS4.out.size
    have HXO5 := Lib.hid ho5
    have HS5 := Lib.hid (HS4.out.kept hb5)
    clear ho5 hb5
    clear i0 i1 i2 a1
    have hr1 := HR1.out
    have c0 : w5.cell? ⟨w.heap.size, 0, none⟩ = some (.int .i64 R) := Blk.cell HS5.out.one.g 0
    have c1 : w5.cell? ⟨w.heap.size, 1, none⟩ = some (.int .i64 C) := Blk.cell HS5.out.one.g 1
    have c2 : w5.cell? ⟨w.heap.size, 2, none⟩ = some (.slice A l.length cp) := Blk.cell HS5.out.one.g 2
    have a1 : w5.cell? ⟨w.heap.size + 1, 1, none⟩ = some (.int .i64 i) := Blk.cell HS5.out.one.a 1
    go_wp2_with fail
    refine (HNM.out _).mono ?_; rintro e wn ⟨rfl, rfl⟩
    clear c0 c1 c2 a1
    have c0 : w5.cell? ⟨w.heap.size, 0, none⟩ = some (.int .i64 R) := Blk.cell HS5.out.one.g 0
    have c1 : w5.cell? ⟨w.heap.size, 1, none⟩ = some (.int .i64 C) := Blk.cell HS5.out.one.g 1
    have c2 : w5.cell? ⟨w.heap.size, 2, none⟩ = some (.slice A l.length cp) := Blk.cell HS5.out.one.g 2
    have a1 : w5.cell? ⟨w.heap.size + 1, 1, none⟩ = some (.int .i64 i) := Blk.cell HS5.out.one.a 1
    go_wp2_with fail
    refine (HP.out _ (HX.out.kept HS5.out.one.bel)).mono ?_; rintro e w8 ⟨vy, rfl, ho8, hb8⟩
    obtain ⟨Ay, cyx, rfl⟩ : ∃ A c, vy = .slice A m.length c := own_shape ho8
    have HYO6 := Lib.hid ho8
    clear ho8
    have HS6 := Lib.hid (HS5.out.kept hb8)
    have HXO6 := Lib.hid (HXO5.out.kept hb8)
    clear hb8
    clear c0 c1 c2 a1
    have i0 : w8.cell? ⟨b, 0, none⟩ = some (.int .i64 R) := Blk.cell HS6.out.one.i 0
    have i1 : w8.cell? ⟨b, 1, none⟩ = some (.int .i64 C) := Blk.cell HS6.out.one.i 1
    have i2 : w8.cell? ⟨b, 2, none⟩ = some (.slice Ai l.length ci) := Blk.cell HS6.out.one.i 2
    have c0 : w8.cell? ⟨w.heap.size, 0, none⟩ = some (.int .i64 R) := Blk.cell HS6.out.one.g 0
    have c1 : w8.cell? ⟨w.heap.size, 1, none⟩ = some (.int .i64 C) := Blk.cell HS6.out.one.g 1
    have c2 : w8.cell? ⟨w.heap.size, 2, none⟩ = some (.slice A l.length cp) := Blk.cell HS6.out.one.g 2
    go_wp2_with fail
    refine (num_eq _ _).mono ?_; rintro e wn ⟨rfl, rfl⟩
    go_wp2_with fail
    refine (HEX.out _ _ _ HXO6.out.cs HYO6.out.cs).mono ?_; rintro e w10 ⟨rfl, hb10⟩
    have HS7 := Lib.hid (HS6.out.kept hb10)
    have HXO7 := Lib.hid (HXO6.out.kept hb10)
    have HYO7 := Lib.hid (HYO6.out.kept hb10)
    clear hb10
    clear i0 i1 i2 c0 c1 c2
    have i0 : w10.cell? ⟨b, 0, none⟩ = some (.int .i64 R) := Blk.cell HS7.out.one.i 0
    have i1 : w10.cell? ⟨b, 1, none⟩ = some (.int .i64 C) := Blk.cell HS7.out.one.i 1
    have i2 : w10.cell? ⟨b, 2, none⟩ = some (.slice Ai l.length ci) := Blk.cell HS7.out.one.i 2
    have c0 : w10.cell? ⟨w.heap.size, 0, none⟩ = some (.int .i64 R) := Blk.cell HS7.out.one.g 0
    have c1 : w10.cell? ⟨w.heap.size, 1, none⟩ = some (.int .i64 C) := Blk.cell HS7.out.one.g 1
    have c2 : w10.cell? ⟨w.heap.size, 2, none⟩ = some (.slice A l.length cp) := Blk.cell HS7.out.one.g 2
    go_wp2_with fail
    refine (HEI.out _ _ HS7.out.one.o.cs (HX.out.cs.kept HS7.out.one.bel)).mono ?_; rintro e w11 ⟨rfl, hb11⟩
    have HS8 := Lib.hid (HS7.out.kept hb11)
    have HXO8 := Lib.hid (HXO7.out.kept hb11)
    have HYO8 := Lib.hid (HYO7.out.kept hb11)
    clear hb11
    clear i0 i1 i2 c0 c1 c2
    go_wp2_with fail
    refine (HFA.out _ _ _ HXO8.out).mono ?_; rintro e w13 ⟨rfl, hb13, hfar⟩
    have HS9 := Lib.hid (HS8.out.far hb13 HPB.out (hfar _ _ _ HFI.out HS8.out.one.o))
    clear hb13 hfar
    have i0 : w13.cell? ⟨b, 0, none⟩ = some (.int .i64 R) := Blk.cell HS9.out.one.i 0
    have i1 : w13.cell? ⟨b, 1, none⟩ = some (.int .i64 C) := Blk.cell HS9.out.one.i 1
    have i2 : w13.cell? ⟨b, 2, none⟩ = some (.slice Ai l.length ci) := Blk.cell HS9.out.one.i 2
    have c0 : w13.cell? ⟨w.heap.size, 0, none⟩ = some (.int .i64 R) := Blk.cell HS9.out.one.g 0
    have c1 : w13.cell? ⟨w.heap.size, 1, none⟩ = some (.int .i64 C) := Blk.cell HS9.out.one.g 1
    have c2 : w13.cell? ⟨w.heap.size, 2, none⟩ = some (.slice A l.length cp) := Blk.cell HS9.out.one.g 2
    go_wp2_with fail
    go_region_law (go_simp; go_at_call 25; refine (HEI.out _ _ (HS9.out.one.o.kept (Below.refl _ _).drew).cs (HX.out.cs.kept (HS9.out.one.bel.trans (((Below.refl _ _).drew).mono HS9.out.one.bel.size)))).mono ?_; rintro e w14 ⟨rfl, hb14⟩; have HS10 := Lib.hid (HS9.out.kept ((Below.refl _ _).drew.trans hb14)); clear hb14 i0 i1 i2 c0 c1 c2; have c0 : w14.cell? ⟨w.heap.size, 0, none⟩ = some (.int .i64 R) := Blk.cell HS10.out.one.g 0; have c1 : w14.cell? ⟨w.heap.size, 1, none⟩ = some (.int .i64 C) := Blk.cell HS10.out.one.g 1; have c2 : w14.cell? ⟨w.heap.size, 2, none⟩ = some (.slice A l.length cp) := Blk.cell HS10.out.one.g 2; obtain ⟨z0, z1, z2, zf0, zf1, zf2⟩ := gzero HS10.out.one.z)
    all_goals
      have HF := Lib.hid (gput_box HS10.out.one.z R C (.slice A l.length cp))
      have HB8 : Hid (Below w.heap.size w (gput w14 (w.heap.size + 2) R C (.slice A l.length cp))) := Lib.hid (gput_below HS10.out.one.bel (by omega) _ _ _)
      have HO8 : Hid (Rm (gput w14 (w.heap.size + 2) R C (.slice A l.length cp)) (.slice A l.length cp) l) := Lib.hid (HX.out.kept HB8.out)
      unfold gput at HF HB8 HO8
      clear c0 c1 c2 z0 z1 z2 zf0 zf1 zf2
      generalize hwz : ((w14.setCell ⟨w.heap.size + 2, 0, none⟩ (.int .i64 R)).setCell ⟨w.heap.size + 2, 1, none⟩ (.int .i64 C)).setCell ⟨w.heap.size + 2, 2, none⟩ (.slice A l.length cp) = wF at HF HO8 HB8
      rw [show w.heap.size + 2 = w.heap.size + 1 + 1 from rfl] at hwz
      try rw [hwz]
      clear hwz
      have z0 : wF.cell? ⟨w.heap.size + 1 + 1, 0, none⟩ = some (.int .i64 R) := Blk.cell HF.out 0
      have z1 : wF.cell? ⟨w.heap.size + 1 + 1, 1, none⟩ = some (.int .i64 C) := Blk.cell HF.out 1
      have z2 : wF.cell? ⟨w.heap.size + 1 + 1, 2, none⟩ = some (.slice A l.length cp) := Blk.cell HF.out 2
      rename_i hK
      refine hK _ _ ?_
      clear hK
      go_simp
      refine wp_ret ?_
      simp only [Exit.inBlock, Exit.then]
      exact bodyPost_ret (v := .tuple #[.agg #[.int .i64 R, .int .i64 C, .slice A l.length cp], .bool true]) (by simp [results, Tryd.results8, go_sem, z0, z1, z2]) rfl ⟨_, rfl, HO8.out, HB8.out⟩
end Row
end Go.Proofs.YtenhgkhonaglaaaDoor
