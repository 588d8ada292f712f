/- An act on both sides, when it erases: the row behind it is the page's, or the error is. -/
import Derived.Test.YtchdkgmednoobaaDoorRowStepP
import Derived.Test.YtchdkgmednoobaaDoorRowErase
namespace Go.Proofs.YtchdkgmednoobaaDoor
set_option maxRecDepth 100000
open Go.RowKit
namespace Row
open Utf Wid

theorem erase_out (l : List Cl) (a : Look) (p r : Int) (x : Value) (w : World) (hx : Cs w x l) (hs : Held l) (hl : l.length ≤ 1000) (h : RowOk l) (ha : attrOk a = true) (hp : ¬ (0 ≤ p ∧ p ≤ r ∧ r ≤ (l.length : Int))) :
    Calls Tryd.prog 14 #[x, .int .i64 p, .int .i64 r, .agg #[.int .i64 a.fg, .int .i64 a.bg, .int .i64 a.flags]] w fun e w' => e = .returned (.tuple #[.slice none 0 0, .int .i64 1]) ∧ Below w.heap.size w w' := by
  by_cases h1 : 0 ≤ p ∧ p ≤ r
  · exact erase_out2 l a p r x w hx hs hl h ha h1 (by omega)
  · exact erase_out1 l a p r x w hx hs hl h ha h1

set_option maxHeartbeats 4000000 in
theorem stepErase_U1 (l : List Cl) (a : Look) (p nn r : Int) (x : Value) (w : World) (hx : Cs w x l) (hs : Bnd l) (hl : l.length ≤ 200) (hT : Tabs w) (h : ¬ RowOk l) :
    Calls Tryd.prog 42 #[x, .agg #[.int .i64 4, .int .i64 p, .int .i64 nn, .int .i64 r, .int .i64 a.fg, .int .i64 a.bg, .int .i64 a.flags]] w (Stepped l w) := by
  have HX := Lib.hid hx
  have HT := Lib.hid hT
  have HS := Lib.hid hs
  have HHD := Lib.hid hs.held
  have hnx : l.length ≤ 100000000 := by omega
  have HB1 : Hid (Below w.heap.size w (w.alloc (.cells #[.int .i64 4, .int .i64 p, .int .i64 nn, .int .i64 r, .int .i64 a.fg, .int .i64 a.bg, .int .i64 a.flags] 35))) := Lib.hid ((Below.refl _ _).alloc (Nat.le_refl _) _)
  have HK1 : Hid ((w.alloc (.cells #[.int .i64 4, .int .i64 p, .int .i64 nn, .int .i64 r, .int .i64 a.fg, .int .i64 a.bg, .int .i64 a.flags] 35)).heap[w.heap.size]? = some (.cells #[.int .i64 4, .int .i64 p, .int .i64 nn, .int .i64 r, .int .i64 a.fg, .int .i64 a.bg, .int .i64 a.flags] 35 (0, 0))) := Lib.hid (heap_alloc_new _ _)
  have HCC := Lib.hid (fun w' v (k : Cs w' v l) => copyCells_any l v w' k hnx)
  have HRW := Lib.hid (fun w' v (k : Cs w' v l) (kT : Tabs w') => refRow_any l false v w' k hs.short kT (by omega) ⟨(fun k => by cases k), fun k => absurd k h⟩)
  have HCK := Lib.hid (fun w' v (k : Cs w' v l) => rowCheck_any l false v w' k HHD.out (by omega) ⟨(fun k => by cases k), fun k => absurd k h⟩)
  obtain ⟨pen, hpen⟩ : ∃ q, attrOk a = q := ⟨_, rfl⟩
  have HAT := Lib.hid (fun w' => attr_at a pen hpen w')
  clear hpen
  have HPU : Hid (∀ w' v, Cs w' v l → Calls Tryd.prog 14 #[v, .int .i64 p, .int .i64 nn, .agg #[.int .i64 a.fg, .int .i64 a.bg, .int .i64 a.flags]] w' fun e w'' => e = .returned (.tuple #[.slice none 0 0, .int .i64 1]) ∧ Below w'.heap.size w' w'') := Lib.hid (fun w' v k1 => erase_unfit l a p nn v w' k1 HHD.out (by omega) (fun k => h k.1))
  have HEQ := Lib.hid (fun w' u v (k1 : Cs w' u l) (k2 : Cs w' v l) => eq_below l u v w' k1 k2 hnx)
  have HEN := Lib.hid (fun w' => eq_below [] (.slice none 0 0) (.slice none 0 0) w' (Cs.nil _) (Cs.nil _) (by decide))
  have HWI := Lib.hid (fun w' => lawWithin_any 4 10 (by decide) (by decide) w')
  have HWI : Hid (∀ w', Calls Tryd.prog 10 #[.int .i64 4, .int .i64 10] w' fun e w'' => e = .returned (.int .i64 4) ∧ w' = w'') := HWI
  obtain ⟨wd, hwd⟩ : ∃ q, wid r = q := ⟨_, rfl⟩
  have HWD := Lib.hid (fun w' => width_at r wd hwd w')
  have HFR := Lib.hid (fun w' => cells_far [] (.slice none 0 0) w'.heap.size w' (OwnCs.nil _ _) (by decide))
  clear h hwd
  obtain ⟨A, c, rfl, _⟩ := hx.form
  clear hx hs hT hl hnx
  go_enter Tryd.func42, Tryd.ntmps42
  go_wp2_with fail
  refine (HCC.out _ _ (HX.out.kept HB1.out)).mono ?_; rintro e w2 ⟨vi, rfl, ho2, hb2⟩
  have HB2 : Hid (Below w.heap.size w w2) := Lib.hid (HB1.out.trans (hb2.mono HB1.out.size))
  have HK2 := Lib.hid (Blk.kept HK1.out hb2)
  have HI2 : Hid (OwnCs w2 w.heap.size vi l) := Lib.hid (ho2.low HB1.out.size)
  clear ho2
  clear hb2
  go_wp2_with fail
  refine (HRW.out _ _ (HX.out.kept HB2.out) (HT.out.kept HB2.out)).mono ?_; rintro e w3 ⟨rfl, hb3⟩
  have HB3 : Hid (Below w.heap.size w w3) := Lib.hid (HB2.out.trans (hb3.mono HB2.out.size))
  have HK3 := Lib.hid (Blk.kept HK2.out hb3)
  have HI3 := Lib.hid (HI2.out.kept hb3)
  clear hb3
  have c4 : w3.cell? ⟨w.heap.size, 4, none⟩ = some (.int .i64 a.fg) := Blk.cell HK3.out 4
  have c5 : w3.cell? ⟨w.heap.size, 5, none⟩ = some (.int .i64 a.bg) := Blk.cell HK3.out 5
  have c6 : w3.cell? ⟨w.heap.size, 6, none⟩ = some (.int .i64 a.flags) := Blk.cell HK3.out 6
  go_wp2_with fail
  refine (HAT.out _).mono ?_; rintro e w4 ⟨rfl, hb4⟩
  have HB4 : Hid (Below w.heap.size w w4) := Lib.hid (HB3.out.trans (hb4.mono HB3.out.size))
  have HK4 := Lib.hid (Blk.kept HK3.out hb4)
  have HI4 := Lib.hid (HI3.out.kept hb4)
  clear hb4
  clear c4 c5 c6
  have c3 : w4.cell? ⟨w.heap.size, 3, none⟩ = some (.int .i64 r) := Blk.cell HK4.out 3
  go_wp2_with fail
  refine (HWD.out _).mono ?_; rintro e w5 ⟨rfl, hb5⟩
  have HB5 : Hid (Below w.heap.size w w5) := Lib.hid (HB4.out.trans (hb5.mono HB4.out.size))
  have HK5 := Lib.hid (Blk.kept HK4.out hb5)
  have HI5 := Lib.hid (HI4.out.kept hb5)
  clear hb5
  clear c3
  have c0 : w5.cell? ⟨w.heap.size, 0, none⟩ = some (.int .i64 4) := Blk.cell HK5.out 0
  have c1 : w5.cell? ⟨w.heap.size, 1, none⟩ = some (.int .i64 p) := Blk.cell HK5.out 1
  have c2 : w5.cell? ⟨w.heap.size, 2, none⟩ = some (.int .i64 nn) := Blk.cell HK5.out 2
  have c4 : w5.cell? ⟨w.heap.size, 4, none⟩ = some (.int .i64 a.fg) := Blk.cell HK5.out 4
  have c5 : w5.cell? ⟨w.heap.size, 5, none⟩ = some (.int .i64 a.bg) := Blk.cell HK5.out 5
  have c6 : w5.cell? ⟨w.heap.size, 6, none⟩ = some (.int .i64 a.flags) := Blk.cell HK5.out 6
  go_wp2_with fail
  refine (HWI.out _).mono ?_; rintro e wn ⟨rfl, rfl⟩
  go_wp2_with fail
  refine (HPU.out _ _ HI5.out.cs).mono ?_; rintro e w6 ⟨rfl, hb6⟩
  have HB6 : Hid (Below w.heap.size w w6) := Lib.hid (HB5.out.trans (hb6.mono HB5.out.size))
  have HK6 := Lib.hid (Blk.kept HK5.out hb6)
  have HI6 := Lib.hid (HI5.out.kept hb6)
  clear hb6
  clear c0 c1 c2 c4 c5 c6
  have c1 : w6.cell? ⟨w.heap.size, 1, none⟩ = some (.int .i64 p) := Blk.cell HK6.out 1
  have c2 : w6.cell? ⟨w.heap.size, 2, none⟩ = some (.int .i64 nn) := Blk.cell HK6.out 2
  have c4 : w6.cell? ⟨w.heap.size, 4, none⟩ = some (.int .i64 a.fg) := Blk.cell HK6.out 4
  have c5 : w6.cell? ⟨w.heap.size, 5, none⟩ = some (.int .i64 a.bg) := Blk.cell HK6.out 5
  have c6 : w6.cell? ⟨w.heap.size, 6, none⟩ = some (.int .i64 a.flags) := Blk.cell HK6.out 6
  go_wp2_with fail
  refine (num_eq _ _).mono ?_; rintro e wn ⟨rfl, rfl⟩
  clear c1 c2 c4 c5 c6
  go_wp2_with fail
  refine (HEN.out _).mono ?_; rintro e w7 ⟨rfl, hb7⟩
  have HB7 : Hid (Below w.heap.size w w7) := Lib.hid (HB6.out.trans (hb7.mono HB6.out.size))
  have HK7 := Lib.hid (Blk.kept HK6.out hb7)
  have HI7 := Lib.hid (HI6.out.kept hb7)
  clear hb7
  go_wp2_with fail
  refine (HEQ.out _ _ _ HI7.out.cs (HX.out.kept HB7.out)).mono ?_; rintro e w8 ⟨rfl, hb8⟩
  have HB8 : Hid (Below w.heap.size w w8) := Lib.hid (HB7.out.trans (hb8.mono HB7.out.size))
  have HK8 := Lib.hid (Blk.kept HK7.out hb8)
  have HI8 := Lib.hid (HI7.out.kept hb8)
  clear hb8
  go_wp2_with fail
  refine (HCK.out _ _ HI8.out.cs).mono ?_; rintro e w9 ⟨rfl, hb9⟩
  have HB9 : Hid (Below w.heap.size w w9) := Lib.hid (HB8.out.trans (hb9.mono HB8.out.size))
  have HK9 := Lib.hid (Blk.kept HK8.out hb9)
  have HI9 := Lib.hid (HI8.out.kept hb9)
  clear hb9
  go_wp2_with fail
  refine (num_eq _ _).mono ?_; rintro e wn ⟨rfl, rfl⟩
  go_wp2_with fail
  refine (HFR.out _).mono ?_; rintro e w10 ⟨rfl, hb10, _⟩
  have HB10 : Hid (Below w.heap.size w w10) := Lib.hid (HB9.out.trans (hb10.mono HB9.out.size))
  have HK10 := Lib.hid (Blk.kept HK9.out hb10)
  have HI10 := Lib.hid (HI9.out.kept hb10)
  clear hb10
  go_wp2_with fail
  refine (HEQ.out _ _ _ HI10.out.cs (HX.out.kept HB10.out)).mono ?_; rintro e w11 ⟨rfl, hb11⟩
  have HB11 : Hid (Below w.heap.size w w11) := Lib.hid (HB10.out.trans (hb11.mono HB10.out.size))
  have HK11 := Lib.hid (Blk.kept HK10.out hb11)
  have HI11 := Lib.hid (HI10.out.kept hb11)
  clear hb11
  go_wp2_with fail
  go_ret2
  exact ⟨_, l, rfl, HX.out.kept HB11.out, rfl, HS.out, HB11.out⟩

set_option maxHeartbeats 4000000 in
theorem stepErase_U2 (l : List Cl) (a : Look) (p nn r : Int) (x : Value) (w : World) (hx : Cs w x l) (hs : Bnd l) (hl : l.length ≤ 200) (hT : Tabs w) (h : RowOk l) (ha : attrOk a = false) :
    Calls Tryd.prog 42 #[x, .agg #[.int .i64 4, .int .i64 p, .int .i64 nn, .int .i64 r, .int .i64 a.fg, .int .i64 a.bg, .int .i64 a.flags]] w (Stepped l w) := by
  have HX := Lib.hid hx
  have HT := Lib.hid hT
  have HS := Lib.hid hs
  have HHD := Lib.hid hs.held
  have hnx : l.length ≤ 100000000 := by omega
  have HB1 : Hid (Below w.heap.size w (w.alloc (.cells #[.int .i64 4, .int .i64 p, .int .i64 nn, .int .i64 r, .int .i64 a.fg, .int .i64 a.bg, .int .i64 a.flags] 35))) := Lib.hid ((Below.refl _ _).alloc (Nat.le_refl _) _)
  have HK1 : Hid ((w.alloc (.cells #[.int .i64 4, .int .i64 p, .int .i64 nn, .int .i64 r, .int .i64 a.fg, .int .i64 a.bg, .int .i64 a.flags] 35)).heap[w.heap.size]? = some (.cells #[.int .i64 4, .int .i64 p, .int .i64 nn, .int .i64 r, .int .i64 a.fg, .int .i64 a.bg, .int .i64 a.flags] 35 (0, 0))) := Lib.hid (heap_alloc_new _ _)
  have HCC := Lib.hid (fun w' v (k : Cs w' v l) => copyCells_any l v w' k hnx)
  have HRW := Lib.hid (fun w' v (k : Cs w' v l) (kT : Tabs w') => refRow_any l true v w' k hs.short kT (by omega) ⟨fun _ => h, fun _ => rfl⟩)
  have HCK := Lib.hid (fun w' v (k : Cs w' v l) => rowCheck_any l true v w' k HHD.out (by omega) ⟨fun _ => h, fun _ => rfl⟩)
  have HAT := Lib.hid (fun w' => attr_at a false ha w')
  have HPU : Hid (∀ w' v, Cs w' v l → Calls Tryd.prog 14 #[v, .int .i64 p, .int .i64 nn, .agg #[.int .i64 a.fg, .int .i64 a.bg, .int .i64 a.flags]] w' fun e w'' => e = .returned (.tuple #[.slice none 0 0, .int .i64 1]) ∧ Below w'.heap.size w' w'') := Lib.hid (fun w' v k1 => erase_unfit l a p nn v w' k1 HHD.out (by omega) (fun k => by rw [k.2] at ha; cases ha))
  have HEQ := Lib.hid (fun w' u v (k1 : Cs w' u l) (k2 : Cs w' v l) => eq_below l u v w' k1 k2 hnx)
  have HEN := Lib.hid (fun w' => eq_below [] (.slice none 0 0) (.slice none 0 0) w' (Cs.nil _) (Cs.nil _) (by decide))
  have HWI := Lib.hid (fun w' => lawWithin_any 4 10 (by decide) (by decide) w')
  have HWI : Hid (∀ w', Calls Tryd.prog 10 #[.int .i64 4, .int .i64 10] w' fun e w'' => e = .returned (.int .i64 4) ∧ w' = w'') := HWI
  obtain ⟨wd, hwd⟩ : ∃ q, wid r = q := ⟨_, rfl⟩
  have HWD := Lib.hid (fun w' => width_at r wd hwd w')
  have HFR := Lib.hid (fun w' => cells_far [] (.slice none 0 0) w'.heap.size w' (OwnCs.nil _ _) (by decide))
  clear h hwd ha
  obtain ⟨A, c, rfl, _⟩ := hx.form
  clear hx hs hT hl hnx
  go_enter Tryd.func42, Tryd.ntmps42
  go_wp2_with fail
  refine (HCC.out _ _ (HX.out.kept HB1.out)).mono ?_; rintro e w2 ⟨vi, rfl, ho2, hb2⟩
  have HB2 : Hid (Below w.heap.size w w2) := Lib.hid (HB1.out.trans (hb2.mono HB1.out.size))
  have HK2 := Lib.hid (Blk.kept HK1.out hb2)
  have HI2 : Hid (OwnCs w2 w.heap.size vi l) := Lib.hid (ho2.low HB1.out.size)
  clear ho2
  clear hb2
  go_wp2_with fail
  refine (HRW.out _ _ (HX.out.kept HB2.out) (HT.out.kept HB2.out)).mono ?_; rintro e w3 ⟨rfl, hb3⟩
  have HB3 : Hid (Below w.heap.size w w3) := Lib.hid (HB2.out.trans (hb3.mono HB2.out.size))
  have HK3 := Lib.hid (Blk.kept HK2.out hb3)
  have HI3 := Lib.hid (HI2.out.kept hb3)
  clear hb3
  have c4 : w3.cell? ⟨w.heap.size, 4, none⟩ = some (.int .i64 a.fg) := Blk.cell HK3.out 4
  have c5 : w3.cell? ⟨w.heap.size, 5, none⟩ = some (.int .i64 a.bg) := Blk.cell HK3.out 5
  have c6 : w3.cell? ⟨w.heap.size, 6, none⟩ = some (.int .i64 a.flags) := Blk.cell HK3.out 6
  go_wp2_with fail
  refine (HAT.out _).mono ?_; rintro e w4 ⟨rfl, hb4⟩
  have HB4 : Hid (Below w.heap.size w w4) := Lib.hid (HB3.out.trans (hb4.mono HB3.out.size))
  have HK4 := Lib.hid (Blk.kept HK3.out hb4)
  have HI4 := Lib.hid (HI3.out.kept hb4)
  clear hb4
  clear c4 c5 c6
  have c3 : w4.cell? ⟨w.heap.size, 3, none⟩ = some (.int .i64 r) := Blk.cell HK4.out 3
  go_wp2_with fail
  refine (HWD.out _).mono ?_; rintro e w5 ⟨rfl, hb5⟩
  have HB5 : Hid (Below w.heap.size w w5) := Lib.hid (HB4.out.trans (hb5.mono HB4.out.size))
  have HK5 := Lib.hid (Blk.kept HK4.out hb5)
  have HI5 := Lib.hid (HI4.out.kept hb5)
  clear hb5
  clear c3
  have c0 : w5.cell? ⟨w.heap.size, 0, none⟩ = some (.int .i64 4) := Blk.cell HK5.out 0
  have c1 : w5.cell? ⟨w.heap.size, 1, none⟩ = some (.int .i64 p) := Blk.cell HK5.out 1
  have c2 : w5.cell? ⟨w.heap.size, 2, none⟩ = some (.int .i64 nn) := Blk.cell HK5.out 2
  have c4 : w5.cell? ⟨w.heap.size, 4, none⟩ = some (.int .i64 a.fg) := Blk.cell HK5.out 4
  have c5 : w5.cell? ⟨w.heap.size, 5, none⟩ = some (.int .i64 a.bg) := Blk.cell HK5.out 5
  have c6 : w5.cell? ⟨w.heap.size, 6, none⟩ = some (.int .i64 a.flags) := Blk.cell HK5.out 6
  go_wp2_with fail
  refine (HWI.out _).mono ?_; rintro e wn ⟨rfl, rfl⟩
  go_wp2_with fail
  refine (HPU.out _ _ HI5.out.cs).mono ?_; rintro e w6 ⟨rfl, hb6⟩
  have HB6 : Hid (Below w.heap.size w w6) := Lib.hid (HB5.out.trans (hb6.mono HB5.out.size))
  have HK6 := Lib.hid (Blk.kept HK5.out hb6)
  have HI6 := Lib.hid (HI5.out.kept hb6)
  clear hb6
  clear c0 c1 c2 c4 c5 c6
  have c1 : w6.cell? ⟨w.heap.size, 1, none⟩ = some (.int .i64 p) := Blk.cell HK6.out 1
  have c2 : w6.cell? ⟨w.heap.size, 2, none⟩ = some (.int .i64 nn) := Blk.cell HK6.out 2
  have c4 : w6.cell? ⟨w.heap.size, 4, none⟩ = some (.int .i64 a.fg) := Blk.cell HK6.out 4
  have c5 : w6.cell? ⟨w.heap.size, 5, none⟩ = some (.int .i64 a.bg) := Blk.cell HK6.out 5
  have c6 : w6.cell? ⟨w.heap.size, 6, none⟩ = some (.int .i64 a.flags) := Blk.cell HK6.out 6
  go_wp2_with fail
  refine (num_eq _ _).mono ?_; rintro e wn ⟨rfl, rfl⟩
  clear c1 c2 c4 c5 c6
  go_wp2_with fail
  refine (HEN.out _).mono ?_; rintro e w7 ⟨rfl, hb7⟩
  have HB7 : Hid (Below w.heap.size w w7) := Lib.hid (HB6.out.trans (hb7.mono HB6.out.size))
  have HK7 := Lib.hid (Blk.kept HK6.out hb7)
  have HI7 := Lib.hid (HI6.out.kept hb7)
  clear hb7
  go_wp2_with fail
  refine (HEQ.out _ _ _ HI7.out.cs (HX.out.kept HB7.out)).mono ?_; rintro e w8 ⟨rfl, hb8⟩
  have HB8 : Hid (Below w.heap.size w w8) := Lib.hid (HB7.out.trans (hb8.mono HB7.out.size))
  have HK8 := Lib.hid (Blk.kept HK7.out hb8)
  have HI8 := Lib.hid (HI7.out.kept hb8)
  clear hb8
  go_wp2_with fail
  refine (HCK.out _ _ HI8.out.cs).mono ?_; rintro e w9 ⟨rfl, hb9⟩
  have HB9 : Hid (Below w.heap.size w w9) := Lib.hid (HB8.out.trans (hb9.mono HB8.out.size))
  have HK9 := Lib.hid (Blk.kept HK8.out hb9)
  have HI9 := Lib.hid (HI8.out.kept hb9)
  clear hb9
  go_wp2_with fail
  refine (num_eq _ _).mono ?_; rintro e wn ⟨rfl, rfl⟩
  go_wp2_with fail
  refine (HFR.out _).mono ?_; rintro e w10 ⟨rfl, hb10, _⟩
  have HB10 : Hid (Below w.heap.size w w10) := Lib.hid (HB9.out.trans (hb10.mono HB9.out.size))
  have HK10 := Lib.hid (Blk.kept HK9.out hb10)
  have HI10 := Lib.hid (HI9.out.kept hb10)
  clear hb10
  go_wp2_with fail
  refine (HEQ.out _ _ _ HI10.out.cs (HX.out.kept HB10.out)).mono ?_; rintro e w11 ⟨rfl, hb11⟩
  have HB11 : Hid (Below w.heap.size w w11) := Lib.hid (HB10.out.trans (hb11.mono HB10.out.size))
  have HK11 := Lib.hid (Blk.kept HK10.out hb11)
  have HI11 := Lib.hid (HI10.out.kept hb11)
  clear hb11
  go_wp2_with fail
  go_ret2
  exact ⟨_, l, rfl, HX.out.kept HB11.out, rfl, HS.out, HB11.out⟩

set_option maxHeartbeats 4000000 in
theorem stepErase_O (l : List Cl) (a : Look) (p nn r : Int) (x : Value) (w : World) (hx : Cs w x l) (hs : Bnd l) (hl : l.length ≤ 200) (hT : Tabs w) (h : RowOk l) (ha : attrOk a = true) (hp : ¬ (0 ≤ p ∧ p ≤ (l.length : Int))) :
    Calls Tryd.prog 42 #[x, .agg #[.int .i64 4, .int .i64 p, .int .i64 nn, .int .i64 r, .int .i64 a.fg, .int .i64 a.bg, .int .i64 a.flags]] w (Stepped l w) := by
  have HX := Lib.hid hx
  have HT := Lib.hid hT
  have HS := Lib.hid hs
  have HHD := Lib.hid hs.held
  have hnx : l.length ≤ 100000000 := by omega
  have HB1 : Hid (Below w.heap.size w (w.alloc (.cells #[.int .i64 4, .int .i64 p, .int .i64 nn, .int .i64 r, .int .i64 a.fg, .int .i64 a.bg, .int .i64 a.flags] 35))) := Lib.hid ((Below.refl _ _).alloc (Nat.le_refl _) _)
  have HK1 : Hid ((w.alloc (.cells #[.int .i64 4, .int .i64 p, .int .i64 nn, .int .i64 r, .int .i64 a.fg, .int .i64 a.bg, .int .i64 a.flags] 35)).heap[w.heap.size]? = some (.cells #[.int .i64 4, .int .i64 p, .int .i64 nn, .int .i64 r, .int .i64 a.fg, .int .i64 a.bg, .int .i64 a.flags] 35 (0, 0))) := Lib.hid (heap_alloc_new _ _)
  have HCC := Lib.hid (fun w' v (k : Cs w' v l) => copyCells_any l v w' k hnx)
  have HRW := Lib.hid (fun w' v (k : Cs w' v l) (kT : Tabs w') => refRow_any l true v w' k hs.short kT (by omega) ⟨fun _ => h, fun _ => rfl⟩)
  have HCK := Lib.hid (fun w' v (k : Cs w' v l) => rowCheck_any l true v w' k HHD.out (by omega) ⟨fun _ => h, fun _ => rfl⟩)
  have HAT := Lib.hid (fun w' => attr_at a true ha w')
  have HPU : Hid (∀ w' v, Cs w' v l → Calls Tryd.prog 14 #[v, .int .i64 p, .int .i64 nn, .agg #[.int .i64 a.fg, .int .i64 a.bg, .int .i64 a.flags]] w' fun e w'' => e = .returned (.tuple #[.slice none 0 0, .int .i64 1]) ∧ Below w'.heap.size w' w'') := Lib.hid (fun w' v k1 => erase_out l a p nn v w' k1 HHD.out (by omega) h ha (by omega))
  have HEQ := Lib.hid (fun w' u v (k1 : Cs w' u l) (k2 : Cs w' v l) => eq_below l u v w' k1 k2 hnx)
  have HEN := Lib.hid (fun w' => eq_below [] (.slice none 0 0) (.slice none 0 0) w' (Cs.nil _) (Cs.nil _) (by decide))
  have HWI := Lib.hid (fun w' => lawWithin_any 4 10 (by decide) (by decide) w')
  have HWI : Hid (∀ w', Calls Tryd.prog 10 #[.int .i64 4, .int .i64 10] w' fun e w'' => e = .returned (.int .i64 4) ∧ w' = w'') := HWI
  obtain ⟨wd, hwd⟩ : ∃ q, wid r = q := ⟨_, rfl⟩
  have HWD := Lib.hid (fun w' => width_at r wd hwd w')
  have hl2 := h.2.1
  have hrg : rng p 0 (l.length : Int) = false := rng_no hp
  have HNU := Lib.hid (fun w' => num_any p (l.length : Int) w')
  rw [hrg] at HNU
  clear hrg
  have HFR := Lib.hid (fun w' => cells_far [] (.slice none 0 0) w'.heap.size w' (OwnCs.nil _ _) (by decide))
  clear h hwd hl2 ha hp
  obtain ⟨A, c, rfl, _⟩ := hx.form
  clear hx hs hT hl hnx
  go_enter Tryd.func42, Tryd.ntmps42
  go_wp2_with fail
  refine (HCC.out _ _ (HX.out.kept HB1.out)).mono ?_; rintro e w2 ⟨vi, rfl, ho2, hb2⟩
  have HB2 : Hid (Below w.heap.size w w2) := Lib.hid (HB1.out.trans (hb2.mono HB1.out.size))
  have HK2 := Lib.hid (Blk.kept HK1.out hb2)
  have HI2 : Hid (OwnCs w2 w.heap.size vi l) := Lib.hid (ho2.low HB1.out.size)
  clear ho2
  clear hb2
  go_wp2_with fail
  refine (HRW.out _ _ (HX.out.kept HB2.out) (HT.out.kept HB2.out)).mono ?_; rintro e w3 ⟨rfl, hb3⟩
  have HB3 : Hid (Below w.heap.size w w3) := Lib.hid (HB2.out.trans (hb3.mono HB2.out.size))
  have HK3 := Lib.hid (Blk.kept HK2.out hb3)
  have HI3 := Lib.hid (HI2.out.kept hb3)
  clear hb3
  have c4 : w3.cell? ⟨w.heap.size, 4, none⟩ = some (.int .i64 a.fg) := Blk.cell HK3.out 4
  have c5 : w3.cell? ⟨w.heap.size, 5, none⟩ = some (.int .i64 a.bg) := Blk.cell HK3.out 5
  have c6 : w3.cell? ⟨w.heap.size, 6, none⟩ = some (.int .i64 a.flags) := Blk.cell HK3.out 6
  go_wp2_with fail
  refine (HAT.out _).mono ?_; rintro e w4 ⟨rfl, hb4⟩
  have HB4 : Hid (Below w.heap.size w w4) := Lib.hid (HB3.out.trans (hb4.mono HB3.out.size))
  have HK4 := Lib.hid (Blk.kept HK3.out hb4)
  have HI4 := Lib.hid (HI3.out.kept hb4)
  clear hb4
  clear c4 c5 c6
  have c3 : w4.cell? ⟨w.heap.size, 3, none⟩ = some (.int .i64 r) := Blk.cell HK4.out 3
  go_wp2_with fail
  refine (HWD.out _).mono ?_; rintro e w5 ⟨rfl, hb5⟩
  have HB5 : Hid (Below w.heap.size w w5) := Lib.hid (HB4.out.trans (hb5.mono HB4.out.size))
  have HK5 := Lib.hid (Blk.kept HK4.out hb5)
  have HI5 := Lib.hid (HI4.out.kept hb5)
  clear hb5
  clear c3
  have c0 : w5.cell? ⟨w.heap.size, 0, none⟩ = some (.int .i64 4) := Blk.cell HK5.out 0
  have c1 : w5.cell? ⟨w.heap.size, 1, none⟩ = some (.int .i64 p) := Blk.cell HK5.out 1
  have c2 : w5.cell? ⟨w.heap.size, 2, none⟩ = some (.int .i64 nn) := Blk.cell HK5.out 2
  have c4 : w5.cell? ⟨w.heap.size, 4, none⟩ = some (.int .i64 a.fg) := Blk.cell HK5.out 4
  have c5 : w5.cell? ⟨w.heap.size, 5, none⟩ = some (.int .i64 a.bg) := Blk.cell HK5.out 5
  have c6 : w5.cell? ⟨w.heap.size, 6, none⟩ = some (.int .i64 a.flags) := Blk.cell HK5.out 6
  go_wp2_with fail
  refine (HWI.out _).mono ?_; rintro e wn ⟨rfl, rfl⟩
  go_wp2_with fail
  refine (HPU.out _ _ HI5.out.cs).mono ?_; rintro e w6 ⟨rfl, hb6⟩
  have HB6 : Hid (Below w.heap.size w w6) := Lib.hid (HB5.out.trans (hb6.mono HB5.out.size))
  have HK6 := Lib.hid (Blk.kept HK5.out hb6)
  have HI6 := Lib.hid (HI5.out.kept hb6)
  clear hb6
  clear c0 c1 c2 c4 c5 c6
  have c1 : w6.cell? ⟨w.heap.size, 1, none⟩ = some (.int .i64 p) := Blk.cell HK6.out 1
  have c2 : w6.cell? ⟨w.heap.size, 2, none⟩ = some (.int .i64 nn) := Blk.cell HK6.out 2
  have c4 : w6.cell? ⟨w.heap.size, 4, none⟩ = some (.int .i64 a.fg) := Blk.cell HK6.out 4
  have c5 : w6.cell? ⟨w.heap.size, 5, none⟩ = some (.int .i64 a.bg) := Blk.cell HK6.out 5
  have c6 : w6.cell? ⟨w.heap.size, 6, none⟩ = some (.int .i64 a.flags) := Blk.cell HK6.out 6
  go_wp2_with fail
  refine (HNU.out _).mono ?_; rintro e wn ⟨rfl, rfl⟩
  go_wp2_with fail
  refine (num_eq _ _).mono ?_; rintro e wn ⟨rfl, rfl⟩
  clear c1 c2 c4 c5 c6
  go_wp2_with fail
  refine (HEN.out _).mono ?_; rintro e w7 ⟨rfl, hb7⟩
  have HB7 : Hid (Below w.heap.size w w7) := Lib.hid (HB6.out.trans (hb7.mono HB6.out.size))
  have HK7 := Lib.hid (Blk.kept HK6.out hb7)
  have HI7 := Lib.hid (HI6.out.kept hb7)
  clear hb7
  go_wp2_with fail
  refine (HEQ.out _ _ _ HI7.out.cs (HX.out.kept HB7.out)).mono ?_; rintro e w8 ⟨rfl, hb8⟩
  have HB8 : Hid (Below w.heap.size w w8) := Lib.hid (HB7.out.trans (hb8.mono HB7.out.size))
  have HK8 := Lib.hid (Blk.kept HK7.out hb8)
  have HI8 := Lib.hid (HI7.out.kept hb8)
  clear hb8
  go_wp2_with fail
  refine (HCK.out _ _ HI8.out.cs).mono ?_; rintro e w9 ⟨rfl, hb9⟩
  have HB9 : Hid (Below w.heap.size w w9) := Lib.hid (HB8.out.trans (hb9.mono HB8.out.size))
  have HK9 := Lib.hid (Blk.kept HK8.out hb9)
  have HI9 := Lib.hid (HI8.out.kept hb9)
  clear hb9
  go_wp2_with fail
  refine (num_eq _ _).mono ?_; rintro e wn ⟨rfl, rfl⟩
  go_wp2_with fail
  refine (HFR.out _).mono ?_; rintro e w10 ⟨rfl, hb10, _⟩
  have HB10 : Hid (Below w.heap.size w w10) := Lib.hid (HB9.out.trans (hb10.mono HB9.out.size))
  have HK10 := Lib.hid (Blk.kept HK9.out hb10)
  have HI10 := Lib.hid (HI9.out.kept hb10)
  clear hb10
  go_wp2_with fail
  refine (HEQ.out _ _ _ HI10.out.cs (HX.out.kept HB10.out)).mono ?_; rintro e w11 ⟨rfl, hb11⟩
  have HB11 : Hid (Below w.heap.size w w11) := Lib.hid (HB10.out.trans (hb11.mono HB10.out.size))
  have HK11 := Lib.hid (Blk.kept HK10.out hb11)
  have HI11 := Lib.hid (HI10.out.kept hb11)
  clear hb11
  go_wp2_with fail
  go_ret2
  exact ⟨_, l, rfl, HX.out.kept HB11.out, rfl, HS.out, HB11.out⟩

set_option maxHeartbeats 4000000 in
theorem stepErase_B (l : List Cl) (a : Look) (p nn r : Int) (x : Value) (w : World) (hx : Cs w x l) (hs : Bnd l) (hl : l.length ≤ 200) (hT : Tabs w) (h : RowOk l) (ha : attrOk a = true) (hp : 0 ≤ p ∧ p ≤ (l.length : Int)) (hq : ¬ (p ≤ nn ∧ nn ≤ (l.length : Int))) :
    Calls Tryd.prog 42 #[x, .agg #[.int .i64 4, .int .i64 p, .int .i64 nn, .int .i64 r, .int .i64 a.fg, .int .i64 a.bg, .int .i64 a.flags]] w (Stepped l w) := by
  have HX := Lib.hid hx
  have HT := Lib.hid hT
  have HS := Lib.hid hs
  have HHD := Lib.hid hs.held
  have hnx : l.length ≤ 100000000 := by omega
  have HB1 : Hid (Below w.heap.size w (w.alloc (.cells #[.int .i64 4, .int .i64 p, .int .i64 nn, .int .i64 r, .int .i64 a.fg, .int .i64 a.bg, .int .i64 a.flags] 35))) := Lib.hid ((Below.refl _ _).alloc (Nat.le_refl _) _)
  have HK1 : Hid ((w.alloc (.cells #[.int .i64 4, .int .i64 p, .int .i64 nn, .int .i64 r, .int .i64 a.fg, .int .i64 a.bg, .int .i64 a.flags] 35)).heap[w.heap.size]? = some (.cells #[.int .i64 4, .int .i64 p, .int .i64 nn, .int .i64 r, .int .i64 a.fg, .int .i64 a.bg, .int .i64 a.flags] 35 (0, 0))) := Lib.hid (heap_alloc_new _ _)
  have HCC := Lib.hid (fun w' v (k : Cs w' v l) => copyCells_any l v w' k hnx)
  have HRW := Lib.hid (fun w' v (k : Cs w' v l) (kT : Tabs w') => refRow_any l true v w' k hs.short kT (by omega) ⟨fun _ => h, fun _ => rfl⟩)
  have HCK := Lib.hid (fun w' v (k : Cs w' v l) => rowCheck_any l true v w' k HHD.out (by omega) ⟨fun _ => h, fun _ => rfl⟩)
  have HAT := Lib.hid (fun w' => attr_at a true ha w')
  have HPU : Hid (∀ w' v, Cs w' v l → Calls Tryd.prog 14 #[v, .int .i64 p, .int .i64 nn, .agg #[.int .i64 a.fg, .int .i64 a.bg, .int .i64 a.flags]] w' fun e w'' => e = .returned (.tuple #[.slice none 0 0, .int .i64 1]) ∧ Below w'.heap.size w' w'') := Lib.hid (fun w' v k1 => erase_out l a p nn v w' k1 HHD.out (by omega) h ha (by omega))
  have HEQ := Lib.hid (fun w' u v (k1 : Cs w' u l) (k2 : Cs w' v l) => eq_below l u v w' k1 k2 hnx)
  have HEN := Lib.hid (fun w' => eq_below [] (.slice none 0 0) (.slice none 0 0) w' (Cs.nil _) (Cs.nil _) (by decide))
  have HWI := Lib.hid (fun w' => lawWithin_any 4 10 (by decide) (by decide) w')
  have HWI : Hid (∀ w', Calls Tryd.prog 10 #[.int .i64 4, .int .i64 10] w' fun e w'' => e = .returned (.int .i64 4) ∧ w' = w'') := HWI
  obtain ⟨wd, hwd⟩ : ∃ q, wid r = q := ⟨_, rfl⟩
  have HWD := Lib.hid (fun w' => width_at r wd hwd w')
  have hl2 := h.2.1
  have hrg : rng p 0 (l.length : Int) = true := rng_yes (by omega) (by omega)
  have HNU := Lib.hid (fun w' => num_any p (l.length : Int) w')
  rw [hrg] at HNU
  have hrb : rng nn p (l.length : Int) = false := rng_no hq
  have HBT := Lib.hid (fun w' => btw_at nn p (l.length : Int) false hrb w')
  clear hrb
  clear hrg
  have HFR := Lib.hid (fun w' => cells_far [] (.slice none 0 0) w'.heap.size w' (OwnCs.nil _ _) (by decide))
  clear h hwd hl2 ha hp hq
  obtain ⟨A, c, rfl, _⟩ := hx.form
  clear hx hs hT hl hnx
  go_enter Tryd.func42, Tryd.ntmps42
  go_wp2_with fail
  refine (HCC.out _ _ (HX.out.kept HB1.out)).mono ?_; rintro e w2 ⟨vi, rfl, ho2, hb2⟩
  have HB2 : Hid (Below w.heap.size w w2) := Lib.hid (HB1.out.trans (hb2.mono HB1.out.size))
  have HK2 := Lib.hid (Blk.kept HK1.out hb2)
  have HI2 : Hid (OwnCs w2 w.heap.size vi l) := Lib.hid (ho2.low HB1.out.size)
  clear ho2
  clear hb2
  go_wp2_with fail
  refine (HRW.out _ _ (HX.out.kept HB2.out) (HT.out.kept HB2.out)).mono ?_; rintro e w3 ⟨rfl, hb3⟩
  have HB3 : Hid (Below w.heap.size w w3) := Lib.hid (HB2.out.trans (hb3.mono HB2.out.size))
  have HK3 := Lib.hid (Blk.kept HK2.out hb3)
  have HI3 := Lib.hid (HI2.out.kept hb3)
  clear hb3
  have c4 : w3.cell? ⟨w.heap.size, 4, none⟩ = some (.int .i64 a.fg) := Blk.cell HK3.out 4
  have c5 : w3.cell? ⟨w.heap.size, 5, none⟩ = some (.int .i64 a.bg) := Blk.cell HK3.out 5
  have c6 : w3.cell? ⟨w.heap.size, 6, none⟩ = some (.int .i64 a.flags) := Blk.cell HK3.out 6
  go_wp2_with fail
  refine (HAT.out _).mono ?_; rintro e w4 ⟨rfl, hb4⟩
  have HB4 : Hid (Below w.heap.size w w4) := Lib.hid (HB3.out.trans (hb4.mono HB3.out.size))
  have HK4 := Lib.hid (Blk.kept HK3.out hb4)
  have HI4 := Lib.hid (HI3.out.kept hb4)
  clear hb4
  clear c4 c5 c6
  have c3 : w4.cell? ⟨w.heap.size, 3, none⟩ = some (.int .i64 r) := Blk.cell HK4.out 3
  go_wp2_with fail
  refine (HWD.out _).mono ?_; rintro e w5 ⟨rfl, hb5⟩
  have HB5 : Hid (Below w.heap.size w w5) := Lib.hid (HB4.out.trans (hb5.mono HB4.out.size))
  have HK5 := Lib.hid (Blk.kept HK4.out hb5)
  have HI5 := Lib.hid (HI4.out.kept hb5)
  clear hb5
  clear c3
  have c0 : w5.cell? ⟨w.heap.size, 0, none⟩ = some (.int .i64 4) := Blk.cell HK5.out 0
  have c1 : w5.cell? ⟨w.heap.size, 1, none⟩ = some (.int .i64 p) := Blk.cell HK5.out 1
  have c2 : w5.cell? ⟨w.heap.size, 2, none⟩ = some (.int .i64 nn) := Blk.cell HK5.out 2
  have c4 : w5.cell? ⟨w.heap.size, 4, none⟩ = some (.int .i64 a.fg) := Blk.cell HK5.out 4
  have c5 : w5.cell? ⟨w.heap.size, 5, none⟩ = some (.int .i64 a.bg) := Blk.cell HK5.out 5
  have c6 : w5.cell? ⟨w.heap.size, 6, none⟩ = some (.int .i64 a.flags) := Blk.cell HK5.out 6
  go_wp2_with fail
  refine (HWI.out _).mono ?_; rintro e wn ⟨rfl, rfl⟩
  go_wp2_with fail
  refine (HPU.out _ _ HI5.out.cs).mono ?_; rintro e w6 ⟨rfl, hb6⟩
  have HB6 : Hid (Below w.heap.size w w6) := Lib.hid (HB5.out.trans (hb6.mono HB5.out.size))
  have HK6 := Lib.hid (Blk.kept HK5.out hb6)
  have HI6 := Lib.hid (HI5.out.kept hb6)
  clear hb6
  clear c0 c1 c2 c4 c5 c6
  have c1 : w6.cell? ⟨w.heap.size, 1, none⟩ = some (.int .i64 p) := Blk.cell HK6.out 1
  have c2 : w6.cell? ⟨w.heap.size, 2, none⟩ = some (.int .i64 nn) := Blk.cell HK6.out 2
  have c4 : w6.cell? ⟨w.heap.size, 4, none⟩ = some (.int .i64 a.fg) := Blk.cell HK6.out 4
  have c5 : w6.cell? ⟨w.heap.size, 5, none⟩ = some (.int .i64 a.bg) := Blk.cell HK6.out 5
  have c6 : w6.cell? ⟨w.heap.size, 6, none⟩ = some (.int .i64 a.flags) := Blk.cell HK6.out 6
  go_wp2_with fail
  refine (HNU.out _).mono ?_; rintro e wn ⟨rfl, rfl⟩
  go_wp2_with fail
  refine (HBT.out _).mono ?_; rintro e wn ⟨rfl, rfl⟩
  go_wp2_with fail
  refine (num_eq _ _).mono ?_; rintro e wn ⟨rfl, rfl⟩
  clear c1 c2 c4 c5 c6
  go_wp2_with fail
  refine (HEN.out _).mono ?_; rintro e w7 ⟨rfl, hb7⟩
  have HB7 : Hid (Below w.heap.size w w7) := Lib.hid (HB6.out.trans (hb7.mono HB6.out.size))
  have HK7 := Lib.hid (Blk.kept HK6.out hb7)
  have HI7 := Lib.hid (HI6.out.kept hb7)
  clear hb7
  go_wp2_with fail
  refine (HEQ.out _ _ _ HI7.out.cs (HX.out.kept HB7.out)).mono ?_; rintro e w8 ⟨rfl, hb8⟩
  have HB8 : Hid (Below w.heap.size w w8) := Lib.hid (HB7.out.trans (hb8.mono HB7.out.size))
  have HK8 := Lib.hid (Blk.kept HK7.out hb8)
  have HI8 := Lib.hid (HI7.out.kept hb8)
  clear hb8
  go_wp2_with fail
  refine (HCK.out _ _ HI8.out.cs).mono ?_; rintro e w9 ⟨rfl, hb9⟩
  have HB9 : Hid (Below w.heap.size w w9) := Lib.hid (HB8.out.trans (hb9.mono HB8.out.size))
  have HK9 := Lib.hid (Blk.kept HK8.out hb9)
  have HI9 := Lib.hid (HI8.out.kept hb9)
  clear hb9
  go_wp2_with fail
  refine (num_eq _ _).mono ?_; rintro e wn ⟨rfl, rfl⟩
  go_wp2_with fail
  refine (HFR.out _).mono ?_; rintro e w10 ⟨rfl, hb10, _⟩
  have HB10 : Hid (Below w.heap.size w w10) := Lib.hid (HB9.out.trans (hb10.mono HB9.out.size))
  have HK10 := Lib.hid (Blk.kept HK9.out hb10)
  have HI10 := Lib.hid (HI9.out.kept hb10)
  clear hb10
  go_wp2_with fail
  refine (HEQ.out _ _ _ HI10.out.cs (HX.out.kept HB10.out)).mono ?_; rintro e w11 ⟨rfl, hb11⟩
  have HB11 : Hid (Below w.heap.size w w11) := Lib.hid (HB10.out.trans (hb11.mono HB10.out.size))
  have HK11 := Lib.hid (Blk.kept HK10.out hb11)
  have HI11 := Lib.hid (HI10.out.kept hb11)
  clear hb11
  go_wp2_with fail
  go_ret2
  exact ⟨_, l, rfl, HX.out.kept HB11.out, rfl, HS.out, HB11.out⟩

set_option maxHeartbeats 4000000 in
theorem stepErase_P (l : List Cl) (a : Look) (p n : Nat) (r : Int) (x : Value) (w : World) (hx : Cs w x l) (hs : Bnd l) (hl : l.length ≤ 200) (hT : Tabs w) (h : RowOk l) (ha : attrOk a = true) (hq : p ≤ n) (hf : n ≤ l.length) :
    Calls Tryd.prog 42 #[x, .agg #[.int .i64 4, .int .i64 ((p : Nat) : Int), .int .i64 ((n : Nat) : Int), .int .i64 r, .int .i64 a.fg, .int .i64 a.bg, .int .i64 a.flags]] w (Stepped l w) := by
  have HX := Lib.hid hx
  have HT := Lib.hid hT
  have HS := Lib.hid hs
  have HHD := Lib.hid hs.held
  have hnx : l.length ≤ 100000000 := by omega
  have HB1 : Hid (Below w.heap.size w (w.alloc (.cells #[.int .i64 4, .int .i64 ((p : Nat) : Int), .int .i64 ((n : Nat) : Int), .int .i64 r, .int .i64 a.fg, .int .i64 a.bg, .int .i64 a.flags] 35))) := Lib.hid ((Below.refl _ _).alloc (Nat.le_refl _) _)
  have HK1 : Hid ((w.alloc (.cells #[.int .i64 4, .int .i64 ((p : Nat) : Int), .int .i64 ((n : Nat) : Int), .int .i64 r, .int .i64 a.fg, .int .i64 a.bg, .int .i64 a.flags] 35)).heap[w.heap.size]? = some (.cells #[.int .i64 4, .int .i64 ((p : Nat) : Int), .int .i64 ((n : Nat) : Int), .int .i64 r, .int .i64 a.fg, .int .i64 a.bg, .int .i64 a.flags] 35 (0, 0))) := Lib.hid (heap_alloc_new _ _)
  have HCC := Lib.hid (fun w' v (k : Cs w' v l) => copyCells_any l v w' k hnx)
  have HRW := Lib.hid (fun w' v (k : Cs w' v l) (kT : Tabs w') => refRow_any l true v w' k hs.short kT (by omega) ⟨fun _ => h, fun _ => rfl⟩)
  have HCK := Lib.hid (fun w' v (k : Cs w' v l) => rowCheck_any l true v w' k HHD.out (by omega) ⟨fun _ => h, fun _ => rfl⟩)
  have HAT := Lib.hid (fun w' => attr_at a true ha w')
  have HPU : Hid (∀ w' v, Cs w' v l → Calls Tryd.prog 14 #[v, .int .i64 p, .int .i64 n, .agg #[.int .i64 a.fg, .int .i64 a.bg, .int .i64 a.flags]] w' fun e w'' => ∃ u, e = .returned (.tuple #[u, .int .i64 0]) ∧ OwnCs w'' w'.heap.size u (repl l p n (List.replicate (n - p) (blank a))) ∧ Below w'.heap.size w' w'') := Lib.hid (fun w' v k1 => erase_fits l a p n v w' k1 HHD.out (by omega) h ha hq hf)
  have HEQ := Lib.hid (fun w' u v (k1 : Cs w' u l) (k2 : Cs w' v l) => eq_below l u v w' k1 k2 hnx)
  have HEN := Lib.hid (fun w' => eq_below [] (.slice none 0 0) (.slice none 0 0) w' (Cs.nil _) (Cs.nil _) (by decide))
  have HWI := Lib.hid (fun w' => lawWithin_any 4 10 (by decide) (by decide) w')
  have HWI : Hid (∀ w', Calls Tryd.prog 10 #[.int .i64 4, .int .i64 10] w' fun e w'' => e = .returned (.int .i64 4) ∧ w' = w'') := HWI
  have hres : RowOk (repl l p n (List.replicate (n - p) (blank a))) ∧ (repl l p n (List.replicate (n - p) (blank a))).length = l.length := ⟨eraseOk h ha hq hf, by
    have q := repl_length (l := l) (low := p) (high := n) hq hf (List.replicate (n - p) (blank a))
    rw [List.length_replicate] at q
    omega⟩
  have HRP := Lib.hid (fun w' v (k : Cs w' v l) => refErase_any l a p n v w' k (by omega) hq hf)
  obtain ⟨wd, hwd⟩ : ∃ q, wid r = q := ⟨_, rfl⟩
  have HWD := Lib.hid (fun w' => width_at r wd hwd w')
  have hl2 := h.2.1
  have hrg : rng ((p : Nat) : Int) 0 (l.length : Int) = true := rng_yes (by omega) (by omega)
  have HNU := Lib.hid (fun w' => num_any ((p : Nat) : Int) (l.length : Int) w')
  rw [hrg] at HNU
  have hrb : rng ((n : Nat) : Int) ((p : Nat) : Int) (l.length : Int) = true := rng_yes (by omega) (by omega)
  have HBT := Lib.hid (fun w' => btw_at ((n : Nat) : Int) ((p : Nat) : Int) (l.length : Int) true hrb w')
  clear hrb
  clear hrg
  generalize repl l p n (List.replicate (n - p) (blank a)) = res at hres HPU HRP
  have HRS := Lib.hid hres
  have hrl : res.length ≤ 100000000 := by have := hres.2; omega
  have HER := Lib.hid (fun w' u v (k1 : Cs w' u res) (k2 : Cs w' v res) => eq_below res u v w' k1 k2 hrl)
  have HFR := Lib.hid (fun w' u b (k1 : OwnCs w' b u res) => cells_far res u b w' k1 hrl)
  have HCR := Lib.hid (fun w' v (k : Cs w' v res) => copyCells_any res v w' k hrl)
  clear hres hrl hq hf ha h hl2 hwd
  obtain ⟨A, c, rfl, _⟩ := hx.form
  clear hx hs hT hl hnx
  go_enter Tryd.func42, Tryd.ntmps42
  go_wp2_with fail
  refine (HCC.out _ _ (HX.out.kept HB1.out)).mono ?_; rintro e w2 ⟨vi, rfl, ho2, hb2⟩
  have HB2 : Hid (Below w.heap.size w w2) := Lib.hid (HB1.out.trans (hb2.mono HB1.out.size))
  have HK2 := Lib.hid (Blk.kept HK1.out hb2)
  have HI2 : Hid (OwnCs w2 w.heap.size vi l) := Lib.hid (ho2.low HB1.out.size)
  clear ho2
  clear hb2
  go_wp2_with fail
  refine (HRW.out _ _ (HX.out.kept HB2.out) (HT.out.kept HB2.out)).mono ?_; rintro e w3 ⟨rfl, hb3⟩
  have HB3 : Hid (Below w.heap.size w w3) := Lib.hid (HB2.out.trans (hb3.mono HB2.out.size))
  have HK3 := Lib.hid (Blk.kept HK2.out hb3)
  have HI3 := Lib.hid (HI2.out.kept hb3)
  clear hb3
  have c4 : w3.cell? ⟨w.heap.size, 4, none⟩ = some (.int .i64 a.fg) := Blk.cell HK3.out 4
  have c5 : w3.cell? ⟨w.heap.size, 5, none⟩ = some (.int .i64 a.bg) := Blk.cell HK3.out 5
  have c6 : w3.cell? ⟨w.heap.size, 6, none⟩ = some (.int .i64 a.flags) := Blk.cell HK3.out 6
  go_wp2_with fail
  refine (HAT.out _).mono ?_; rintro e w4 ⟨rfl, hb4⟩
  have HB4 : Hid (Below w.heap.size w w4) := Lib.hid (HB3.out.trans (hb4.mono HB3.out.size))
  have HK4 := Lib.hid (Blk.kept HK3.out hb4)
  have HI4 := Lib.hid (HI3.out.kept hb4)
  clear hb4
  clear c4 c5 c6
  have c3 : w4.cell? ⟨w.heap.size, 3, none⟩ = some (.int .i64 r) := Blk.cell HK4.out 3
  go_wp2_with fail
  refine (HWD.out _).mono ?_; rintro e w5 ⟨rfl, hb5⟩
  have HB5 : Hid (Below w.heap.size w w5) := Lib.hid (HB4.out.trans (hb5.mono HB4.out.size))
  have HK5 := Lib.hid (Blk.kept HK4.out hb5)
  have HI5 := Lib.hid (HI4.out.kept hb5)
  clear hb5
  clear c3
  have c0 : w5.cell? ⟨w.heap.size, 0, none⟩ = some (.int .i64 4) := Blk.cell HK5.out 0
  have c1 : w5.cell? ⟨w.heap.size, 1, none⟩ = some (.int .i64 ((p : Nat) : Int)) := Blk.cell HK5.out 1
  have c2 : w5.cell? ⟨w.heap.size, 2, none⟩ = some (.int .i64 ((n : Nat) : Int)) := Blk.cell HK5.out 2
  have c4 : w5.cell? ⟨w.heap.size, 4, none⟩ = some (.int .i64 a.fg) := Blk.cell HK5.out 4
  have c5 : w5.cell? ⟨w.heap.size, 5, none⟩ = some (.int .i64 a.bg) := Blk.cell HK5.out 5
  have c6 : w5.cell? ⟨w.heap.size, 6, none⟩ = some (.int .i64 a.flags) := Blk.cell HK5.out 6
  go_wp2_with fail
  refine (HWI.out _).mono ?_; rintro e wn ⟨rfl, rfl⟩
  go_wp2_with fail
  refine (HPU.out _ _ HI5.out.cs).mono ?_; rintro e w6 ⟨vp, rfl, ho6, hb6⟩
  have HB6 : Hid (Below w.heap.size w w6) := Lib.hid (HB5.out.trans (hb6.mono HB5.out.size))
  have HK6 := Lib.hid (Blk.kept HK5.out hb6)
  have HI6 := Lib.hid (HI5.out.kept hb6)
  have HP6 : Hid (OwnCs w6 w5.heap.size vp res) := Lib.hid ho6
  have HZ := Lib.hid HB5.out.size
  have HNI : Hid (vi.ownBlock ≠ vp.ownBlock ∨ vi = .slice none 0 0) := Lib.hid (apart2 ho6 HI5.out)
  clear ho6
  clear hb6
  clear c0 c1 c2 c4 c5 c6
  have c1 : w6.cell? ⟨w.heap.size, 1, none⟩ = some (.int .i64 ((p : Nat) : Int)) := Blk.cell HK6.out 1
  have c2 : w6.cell? ⟨w.heap.size, 2, none⟩ = some (.int .i64 ((n : Nat) : Int)) := Blk.cell HK6.out 2
  have c4 : w6.cell? ⟨w.heap.size, 4, none⟩ = some (.int .i64 a.fg) := Blk.cell HK6.out 4
  have c5 : w6.cell? ⟨w.heap.size, 5, none⟩ = some (.int .i64 a.bg) := Blk.cell HK6.out 5
  have c6 : w6.cell? ⟨w.heap.size, 6, none⟩ = some (.int .i64 a.flags) := Blk.cell HK6.out 6
  go_wp2_with fail
  refine (HNU.out _).mono ?_; rintro e wn ⟨rfl, rfl⟩
  go_wp2_with fail
  refine (HBT.out _).mono ?_; rintro e wn ⟨rfl, rfl⟩
  go_wp2_with fail
  refine (HRP.out _ _ (HX.out.kept HB6.out)).mono ?_; rintro e w7 ⟨vq, rfl, ho7, hb7⟩
  have HB7 : Hid (Below w.heap.size w w7) := Lib.hid (HB6.out.trans (hb7.mono HB6.out.size))
  have HK7 := Lib.hid (Blk.kept HK6.out hb7)
  have HI7 := Lib.hid (HI6.out.kept hb7)
  have HP7 := Lib.hid (HP6.out.kept hb7)
  have HQ7 : Hid (OwnCs w7 w6.heap.size vq res) := Lib.hid ho7
  have HNE : Hid (vq.ownBlock ≠ vp.ownBlock ∨ vq = .slice none 0 0) := Lib.hid (apart ho7 HP6.out)
  clear ho7
  clear hb7
  go_wp2_with fail
  refine (num_eq _ _).mono ?_; rintro e wn ⟨rfl, rfl⟩
  clear c1 c2 c4 c5 c6
  go_wp2_with fail
  refine (HER.out _ _ _ HP7.out.cs HQ7.out.cs).mono ?_; rintro e w8 ⟨rfl, hb8⟩
  have HB8 : Hid (Below w.heap.size w w8) := Lib.hid (HB7.out.trans (hb8.mono HB7.out.size))
  have HK8 := Lib.hid (Blk.kept HK7.out hb8)
  have HI8 := Lib.hid (HI7.out.kept hb8)
  have HP8 := Lib.hid (HP7.out.kept hb8)
  have HQ8 := Lib.hid (HQ7.out.kept hb8)
  clear hb8
  go_wp2_with fail
  refine (HEQ.out _ _ _ HI8.out.cs (HX.out.kept HB8.out)).mono ?_; rintro e w9 ⟨rfl, hb9⟩
  have HB9 : Hid (Below w.heap.size w w9) := Lib.hid (HB8.out.trans (hb9.mono HB8.out.size))
  have HK9 := Lib.hid (Blk.kept HK8.out hb9)
  have HI9 := Lib.hid (HI8.out.kept hb9)
  have HP9 := Lib.hid (HP8.out.kept hb9)
  have HQ9 := Lib.hid (HQ8.out.kept hb9)
  clear hb9
  go_wp2_with fail
  refine (HCK.out _ _ HI9.out.cs).mono ?_; rintro e w10 ⟨rfl, hb10⟩
  have HB10 : Hid (Below w.heap.size w w10) := Lib.hid (HB9.out.trans (hb10.mono HB9.out.size))
  have HK10 := Lib.hid (Blk.kept HK9.out hb10)
  have HI10 := Lib.hid (HI9.out.kept hb10)
  have HP10 := Lib.hid (HP9.out.kept hb10)
  have HQ10 := Lib.hid (HQ9.out.kept hb10)
  clear hb10
  go_wp2_with fail
  refine (num_eq _ _).mono ?_; rintro e wn ⟨rfl, rfl⟩
  go_wp2_with fail
  refine (HFR.out _ _ _ HP10.out).mono ?_; rintro e w11 ⟨rfl, hb11, hfar⟩
  have HB11 : Hid (Below w.heap.size w w11) := Lib.hid (HB10.out.trans (hb11.mono HZ.out))
  have HI11 := Lib.hid (hfar _ _ _ HNI.out HI10.out)
  have HQ11 := Lib.hid (hfar _ _ _ HNE.out HQ10.out)
  clear hb11 hfar
  go_wp2_with fail
  refine (HEQ.out _ _ _ HI11.out.cs (HX.out.kept HB11.out)).mono ?_; rintro e w12 ⟨rfl, hb12⟩
  have HB12 : Hid (Below w.heap.size w w12) := Lib.hid (HB11.out.trans (hb12.mono HB11.out.size))
  have HQ12 := Lib.hid (HQ11.out.kept hb12)
  clear hb12
  go_wp2_with fail
  refine (HCR.out _ _ HQ12.out.cs).mono ?_; rintro e w13 ⟨vz, rfl, hoz, hb13⟩
  have HB13 : Hid (Below w.heap.size w w13) := Lib.hid (HB12.out.trans (hb13.mono HB12.out.size))
  have HOZ := Lib.hid hoz.cs
  clear hb13 hoz
  go_wp2_with fail
  go_ret2
  exact ⟨vz, res, rfl, HOZ.out, HRS.out.2, HRS.out.1.bnd, HB13.out⟩
end Row
end Go.Proofs.YtchdkgmednoobaaDoor
