/- The developers' orders: colours of several numbers; what a list begins with. -/
import Derived.Test.YtabplmhmanbmjaaSgrDev2
import Derived.Deep.QuietTactic
import Derived.BigQuiet
namespace Go.Proofs.Ytabplmhmanbmjaa
set_option maxRecDepth 100000
open Go.RowKit
namespace Sd
open Sgr
/-- An order, and the numbers behind it. -/
def Told (w : World) (x : Value) (p : Ord × List Int) (e : Ending) (w' : World) : Prop := ∃ V q, e = .returned (.tuple #[ordVal p.1, V]) ∧ Sl w V p.2 ∧ (∀ g, Clear g x → Clear g V) ∧ w' = w.drewN q
def withinOf (c most : Int) : Ord := if 255 < most then .void else .front c
theorem within_at (c most : Int) (w : World) : Calls Try.prog 35 #[.int .i64 c, .int .i64 most] w fun e w' => e = .returned (ordVal (withinOf c most)) ∧ w' = w := (within_any c most w).mono fun _ _ h => ⟨h.1, h.2.symm⟩
set_option maxHeartbeats 1600000 in
theorem long5 (l : List Int) (x : Value) (w : World) (hx : Sl w x l) (hl : l.length ≤ 1000000000) (hr : ∀ k, k < l.length → 0 ≤ l.getD k 0 ∧ l.getD k 0 ≤ 9999) (h2 : 2 ≤ l.length) (h5 : l.getD 0 0 = 5) :
    Calls Try.prog 32 #[x] w (Told w x (longOf l)) := by
  obtain ⟨A, c, rfl, hc⟩ := hx.room
  have hc5 : colourOf l = (if 255 < l.getD 1 0 then -1 else l.getD 1 0, 2) := by
    have := hr 1 (by omega)
    unfold colourOf
    rw [if_pos ⟨h2, h5⟩, show max 0 (l.getD 1 0) = l.getD 1 0 by omega]
  have HL : Hid (longOf l = (withinOf (l.getD 1 0) (l.getD 1 0), l.drop 2)) := Lib.hid (by
    have := hr 1 (by omega)
    unfold longOf withinOf
    rw [hc5]
    by_cases h : 255 < l.getD 1 0
    · rw [if_pos h, if_pos h]; rfl
    · rw [if_neg h, if_neg h]
      show (if l.getD 1 0 < 0 then Ord.void else .front (l.getD 1 0), if (2 : Int) = 0 then [] else l.drop 2) = _
      rw [if_neg (by omega), if_neg (by decide)])
  obtain ⟨ad, rfl, hE0⟩ := hx.get 0 (by omega)
  obtain ⟨ad', e', hE1⟩ := hx.get 1 (by omega)
  obtain rfl : ad = ad' := by simpa using e'
  rw [h5, add_none] at hE0
  rw [add_some] at hE1
  obtain ⟨V, hV, hT, hCl⟩ := hx.tail 2 h2 2 rfl
  have HT := Lib.hid hT
  have HCL := Lib.hid hCl
  clear hCl
  have hl1 : (1 : Int) < l.length := by omega
  have hl0 : (0 : Int) < l.length := by omega
  have hd2 : decide ((2 : Int) ≤ l.length) = true := decide_eq_true (by omega)
  rw [HL.out]
  clear hc5 hx hr h5 e' hT hc
  generalize l.getD 1 0 = y at *
  go_enter Try.func32, Try.ntmps32
  go_wp2_with fail
  go_quiet ((go_at_call 35; exact Calls.quiet_of_same (within_at _ _ _)))
  go_wp2_with fail
  go_ret2
  exact ⟨V, _, rfl, HT.out, HCL.out, rfl⟩
theorem max3 (a b c : Int) : (if (if a < b then b else a) < c then c else if a < b then b else a) = max (max a b) c := by
  repeat' split
  all_goals omega
theorem within_eq {c c' m m' : Int} (hc : c = c') (hm : m = m') (w : World) : Calls Try.prog 35 #[.int .i64 c, .int .i64 m] w fun e w' => e = .returned (ordVal (withinOf c' m')) ∧ w' = w := by
  subst hc; subst hm; exact within_at _ _ _
set_option maxHeartbeats 1600000 in
theorem long2 (l : List Int) (x : Value) (w : World) (hx : Sl w x l) (hl : l.length ≤ 1000000000) (hr : ∀ k, k < l.length → 0 ≤ l.getD k 0 ∧ l.getD k 0 ≤ 9999) (h4 : 4 ≤ l.length) (h2 : l.getD 0 0 = 2) :
    Calls Try.prog 32 #[x] w (Told w x (longOf l)) := by
  obtain ⟨A, c, rfl, hc⟩ := hx.room
  have r1 := hr 1 (by omega)
  have r2 := hr 2 (by omega)
  have r3 := hr 3 (by omega)
  have m1 : max 0 (l.getD 1 0) = l.getD 1 0 := by omega
  have m2 : max 0 (l.getD 2 0) = l.getD 2 0 := by omega
  have m3 : max 0 (l.getD 3 0) = l.getD 3 0 := by omega
  have hc2 : colourOf l = (if 255 < max (max (l.getD 1 0) (l.getD 2 0)) (l.getD 3 0) then -1 else 256 + (65536 * l.getD 1 0 + 256 * l.getD 2 0 + l.getD 3 0), 4) := by
    unfold colourOf
    rw [if_neg (by omega), if_pos ⟨h4, h2⟩]
    unfold rgbOf
    rw [m1, m2, m3]
    by_cases h : 255 < max (max (l.getD 1 0) (l.getD 2 0)) (l.getD 3 0)
    · rw [if_pos h, if_pos (by omega)]
    · rw [if_neg h, if_neg (by omega)]
  have HL : Hid (longOf l = (withinOf (256 + (65536 * l.getD 1 0 + 256 * l.getD 2 0 + l.getD 3 0)) (max (max (l.getD 1 0) (l.getD 2 0)) (l.getD 3 0)), l.drop 4)) := Lib.hid (by
    unfold longOf withinOf
    rw [hc2]
    by_cases h : 255 < max (max (l.getD 1 0) (l.getD 2 0)) (l.getD 3 0)
    · rw [if_pos h, if_pos h]; rfl
    · rw [if_neg h, if_neg h]
      show (if 256 + (65536 * l.getD 1 0 + 256 * l.getD 2 0 + l.getD 3 0) < 0 then Ord.void else .front (256 + (65536 * l.getD 1 0 + 256 * l.getD 2 0 + l.getD 3 0)), if (4 : Int) = 0 then [] else l.drop 4) = _
      rw [if_neg (by omega), if_neg (by decide)])
  obtain ⟨ad, rfl, hE0⟩ := hx.get 0 (by omega)
  obtain ⟨ad', e', hE1⟩ := hx.get 1 (by omega)
  obtain rfl : ad = ad' := by simpa using e'
  obtain ⟨ad', e', hE2⟩ := hx.get 2 (by omega)
  obtain rfl : ad = ad' := by simpa using e'
  obtain ⟨ad', e', hE3⟩ := hx.get 3 (by omega)
  obtain rfl : ad = ad' := by simpa using e'
  rw [h2, add_none] at hE0
  rw [add_some] at hE1 hE2 hE3
  obtain ⟨V, hV, hT, hCl⟩ := hx.tail 4 h4 4 rfl
  have HT := Lib.hid hT
  have HCL := Lib.hid hCl
  clear hCl
  have hl1 : (1 : Int) < l.length := by omega
  have hl0 : (0 : Int) < l.length := by omega
  have hl2 : (2 : Int) < l.length := by omega
  have hl3 : (3 : Int) < l.length := by omega
  have hd2 : decide ((2 : Int) ≤ l.length) = true := decide_eq_true (by omega)
  have hd4 : decide ((4 : Int) ≤ l.length) = true := decide_eq_true (by omega)
  rw [HL.out]
  clear hc2 hx hr h2 e' hT hc m1 m2 m3
  generalize l.getD 1 0 = y1 at *
  generalize l.getD 2 0 = y2 at *
  generalize l.getD 3 0 = y3 at *
  go_enter Try.func32, Try.ntmps32
  go_wp2_with fail
  have HC : Hid (256 + y1 * 65536 + y2 * 256 + y3 = 256 + (65536 * y1 + 256 * y2 + y3)) := Lib.hid (by omega)
  go_quiet ((go_at_call 35; exact Calls.quiet_of_same (within_eq HC.out (max3 y1 y2 y3) _)))
  go_wp2_with fail
  all_goals
    go_ret2
    exact ⟨V, _, rfl, HT.out, HCL.out, rfl⟩
set_option maxHeartbeats 1600000 in
theorem long_no (l : List Int) (x : Value) (w : World) (hx : Sl w x l) (hl : l.length ≤ 1000000000) (h5 : ¬(2 ≤ l.length ∧ l.getD 0 0 = 5)) (h2 : ¬(4 ≤ l.length ∧ l.getD 0 0 = 2)) :
    Calls Try.prog 32 #[x] w (Told w x (longOf l)) := by
  obtain ⟨A, c, rfl, hc⟩ := hx.room
  have hL : longOf l = (.void, []) := by
    have : colourOf l = (-1, 0) := by unfold colourOf; rw [if_neg h5, if_neg h2]
    unfold longOf; rw [this]; rfl
  rw [hL]
  by_cases k2 : 2 ≤ l.length
  · obtain ⟨ad, rfl, hE0⟩ := hx.get 0 (by omega)
    rw [add_none] at hE0
    have y5 : (l.getD 0 0 == 5) = false := by rw [beq_eq_false_iff_ne]; exact fun e => h5 ⟨k2, e⟩
    have hd2 : decide ((2 : Int) ≤ l.length) = true := decide_eq_true (by omega)
    have hl0 : (0 : Int) < l.length := by omega
    by_cases k4 : 4 ≤ l.length
    · have y2 : (l.getD 0 0 == 2) = false := by rw [beq_eq_false_iff_ne]; exact fun e => h2 ⟨k4, e⟩
      have hd4 : decide ((4 : Int) ≤ l.length) = true := decide_eq_true (by omega)
      clear hL hx h5 h2 k2 k4 hc
      generalize l.getD 0 0 = y at *
      go_enter Try.func32, Try.ntmps32
      go_wp2_with fail
      go_ret2
      exact ⟨_, 0, rfl, Sl.nil w, fun g _ => Clear.nil g, rfl⟩
    · have hd4 : decide ((4 : Int) ≤ l.length) = false := decide_eq_false (by omega)
      clear hL hx h5 h2 k2 k4 hc
      generalize l.getD 0 0 = y at *
      go_enter Try.func32, Try.ntmps32
      go_wp2_with fail
      go_ret2
      exact ⟨_, 0, rfl, Sl.nil w, fun g _ => Clear.nil g, rfl⟩
  · have hd2 : decide ((2 : Int) ≤ l.length) = false := decide_eq_false (by omega)
    have hd4 : decide ((4 : Int) ≤ l.length) = false := decide_eq_false (by omega)
    clear hL hx h5 h2 k2 hc
    go_enter Try.func32, Try.ntmps32
    go_wp2_with fail
    go_ret2
    exact ⟨_, 0, rfl, Sl.nil w, fun g _ => Clear.nil g, rfl⟩
theorem long_any (l : List Int) (x : Value) (w : World) (hx : Sl w x l) (hl : l.length ≤ 1000000000) (hr : ∀ k, k < l.length → 0 ≤ l.getD k 0 ∧ l.getD k 0 ≤ 9999) : Calls Try.prog 32 #[x] w (Told w x (longOf l)) := by
  by_cases h5 : 2 ≤ l.length ∧ l.getD 0 0 = 5
  · exact long5 l x w hx hl hr h5.1 h5.2
  by_cases h2 : 4 ≤ l.length ∧ l.getD 0 0 = 2
  · exact long2 l x w hx hl hr h2.1 h2.2
  exact long_no l x w hx hl h5 h2
/-- An order, the numbers behind it, and memory as it was. -/
def Read (w : World) (x : Value) (p : Ord × List Int) (e : Ending) (w' : World) : Prop := ∃ V, e = .returned (.tuple #[ordVal p.1, V]) ∧ Sl w' V p.2 ∧ (∀ g, Clear g x → Clear g V) ∧ Below w.heap.size w w'
set_option maxHeartbeats 1600000 in
theorem read_any (y : Int) (l : List Int) (x : Value) (w : World) (hx : Sl w x (y :: l)) (hl : l.length ≤ 100000000) (hr : ∀ k, k < l.length → 0 ≤ l.getD k 0 ∧ l.getD k 0 ≤ 9999) (hy : 0 ≤ y ∧ y ≤ 9999) :
    Calls Try.prog 27 #[x] w (Read w x (readOf (y :: l))) := by
  obtain ⟨A, c, rfl, hc⟩ := hx.room
  obtain ⟨ad, rfl, hE0⟩ := hx.get 0 (by simp)
  obtain ⟨V, hV, hT, hCl⟩ := hx.tail 1 (by simp) 1 rfl
  rw [add_none] at hE0
  have hE : w.cell? ad = some (.int .i64 y) := hE0
  have HT : Hid (Sl w V l) := Lib.hid hT
  have HCL := Lib.hid hCl
  clear hCl
  have hl0 : (0 : Int) < (y :: l).length := by simp
  have HR := Lib.hid hr
  clear hE0 hT hx hc hr
  generalize (y :: l).length = n at *
  by_cases h38 : y = 38
  · have HL : Hid (readOf (y :: l) = longOf l) := Lib.hid (by rw [readOf_cons, if_pos h38])
    have b38 : (y == 38) = true := by rw [beq_iff_eq]; exact h38
    rw [HL.out]
    clear h38
    go_enter Try.func27, Try.ntmps27
    go_wp2_with fail
    go_quiet (fail)
    go_wp2_with fail
    refine (long_any l V _ (HT.out.drewN _) (by omega) HR.out).mono ?_
    rintro e w2 ⟨U, q, rfl, hU, hUc, rfl⟩
    have HUC := Lib.hid hUc
    clear hUc
    go_wp2_with fail
    go_ret2
    exact ⟨U, rfl, by rw [← drewN_drewN]; exact hU.drewN _, fun g hg => HUC.out g (HCL.out g hg), below_drewN (Below.refl _ _) _⟩
  have b38 : (y == 38) = false := by rw [beq_eq_false_iff_ne]; exact h38
  by_cases h48 : y = 48
  · have HL : Hid (readOf (y :: l) = (behindOf (longOf l).1, (longOf l).2)) := Lib.hid (by rw [readOf_cons, if_neg h38, if_pos h48])
    have b48 : (y == 48) = true := by rw [beq_iff_eq]; exact h48
    rw [HL.out]
    clear h38 h48
    go_enter Try.func27, Try.ntmps27
    go_wp2_with fail
    go_quiet (fail)
    go_wp2_with fail
    refine (long_any l V _ (HT.out.drewN _) (by omega) HR.out).mono ?_
    rintro e w2 ⟨U, q, rfl, hU, hUc, rfl⟩
    have HUC := Lib.hid hUc
    clear hUc
    go_wp2_with fail
    refine (behind_any (longOf l).1 _).mono ?_; rintro e w' ⟨rfl, rfl⟩
    go_wp2_with fail
    go_ret2
    exact ⟨U, rfl, by rw [← drewN_drewN]; exact hU.drewN _, fun g hg => HUC.out g (HCL.out g hg), below_drewN (Below.refl _ _) _⟩
  have b48 : (y == 48) = false := by rw [beq_eq_false_iff_ne]; exact h48
  have HL : Hid (readOf (y :: l) = (aloneOf y, l)) := Lib.hid (by rw [readOf_cons, if_neg h38, if_neg h48])
  rw [HL.out]
  clear h38 h48
  go_enter Try.func27, Try.ntmps27
  go_wp2_with fail
  go_quiet (fail)
  go_wp2_with fail
  refine (alone_any y hy.1 hy.2 _).mono ?_; rintro e w' ⟨rfl, hb⟩
  go_wp2_with fail
  go_ret2
  exact ⟨V, rfl, (HT.out.drewN _).kept hb, HCL.out, (below_drewN (Below.refl _ _) _).trans hb⟩
end Sd
end Go.Proofs.Ytabplmhmanbmjaa
