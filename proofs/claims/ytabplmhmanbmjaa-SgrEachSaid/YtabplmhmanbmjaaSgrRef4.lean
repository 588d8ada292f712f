/- How cells look, the reference's side: the colour behind 38 and 48. -/
import Derived.Test.YtabplmhmanbmjaaSgrRef3
namespace Go.Proofs.Ytabplmhmanbmjaa
set_option maxRecDepth 100000
open Go.RowKit
namespace Sgr

/-- One of three bytes behind the last: none where one was too great. -/
def rgbOf (r g b : Int) : Int := if 255 < max 0 r ∨ 255 < max 0 g ∨ 255 < max 0 b then -1 else 256 + (65536 * max 0 r + 256 * max 0 g + max 0 b)
/-- The colour behind 38 or 48 (-1: none) and how many numbers it takes (0: all others are passed over). -/
def colourOf (l : List Int) : Int × Int :=
  if 2 ≤ l.length ∧ l.getD 0 0 = 5 then (if 255 < max 0 (l.getD 1 0) then -1 else max 0 (l.getD 1 0), 2)
  else if 4 ≤ l.length ∧ l.getD 0 0 = 2 then (rgbOf (l.getD 1 0) (l.getD 2 0) (l.getD 3 0), 4)
  else (-1, 0)

theorem add_none (ad : Addr) : ad.add 0 = ad := by simp [Addr.add]
theorem add_some (ad : Addr) (k : Nat) : ad.add (k + 1) = ⟨ad.block, ad.off + (k + 1), none⟩ := by simp [Addr.add]
theorem colour5 (l : List Int) (x : Value) (w : World) (hx : Src w x l.length (ints l)) (hl : l.length ≤ 1000000000)
    (h2 : 2 ≤ l.length) (h5 : l.getD 0 0 = 5) (hr : -1 ≤ l.getD 1 0 ∧ l.getD 1 0 ≤ 9999) :
    Calls Try.prog 31 #[x] w fun e w' => e = .returned (.tuple #[.int .i64 (colourOf l).1, .int .i64 (colourOf l).2]) ∧ w = w' := by
  obtain ⟨A, c, rfl, hA⟩ := hx.form
  obtain ⟨ad, rfl, hE0⟩ := hA 0 (by omega)
  obtain ⟨ad', e', hE1⟩ := hA 1 (by omega)
  obtain rfl : ad = ad' := by simpa using e'
  rw [ints_get (by omega), h5] at hE0
  rw [ints_get (by omega)] at hE1
  have hC : colourOf l = (if 255 < max 0 (l.getD 1 0) then -1 else max 0 (l.getD 1 0), 2) := by unfold colourOf; rw [if_pos ⟨h2, h5⟩]
  rw [hC]
  have hE00 : w.cell? ad = some (.int .i64 5) := (by rwa [add_none] at hE0)
  have hE11 : w.cell? ⟨ad.block, ad.off + 1, none⟩ = some (.int .i64 (l.getD 1 0)) := (by rwa [add_some ad 0] at hE1)
  clear hC hA hx h5 e'
  generalize l.getD 1 0 = y at *
  have hd2 : decide ((2 : Int) ≤ l.length) = true := decide_eq_true (by omega)
  have hl1 : (1 : Int) < l.length := by omega
  have hl0 : (0 : Int) < l.length := by omega
  by_cases hg : 255 < y
  · rw [if_pos (by omega)]
    have hp : (0 : Int) < y := by omega
    go_enter Try.func31, Try.ntmps31
    go_wp2_with fail
    show bodyPost _ _ _ Exit.ret _ _
    refine bodyPost_ret (v := .tuple #[.int .i64 (-1), .int .i64 2]) (by simp [results, Try.results31, go_sem]) rfl ⟨rfl, rfl⟩
  · have hg' : decide (255 < y) = false := decide_eq_false hg
    rw [if_neg (by omega)]
    by_cases hp : 0 < y
    · have hm : max 0 y = y := by omega
      rw [hm]
      clear hm
      go_enter Try.func31, Try.ntmps31
      go_wp2_with fail
      show bodyPost _ _ _ Exit.ret _ _
      refine bodyPost_ret (v := .tuple #[.int .i64 (y), .int .i64 2]) (by simp [results, Try.results31, go_sem]) rfl ⟨rfl, rfl⟩
    · have hm : max 0 y = 0 := by omega
      rw [hm]
      clear hm
      go_enter Try.func31, Try.ntmps31
      go_wp2_with fail
      show bodyPost _ _ _ Exit.ret _ _
      refine bodyPost_ret (v := .tuple #[.int .i64 (0), .int .i64 2]) (by simp [results, Try.results31, go_sem]) rfl ⟨rfl, rfl⟩
theorem colour_no (l : List Int) (x : Value) (w : World) (hx : Src w x l.length (ints l)) (hl : l.length ≤ 1000000000)
    (h5 : ¬(2 ≤ l.length ∧ l.getD 0 0 = 5)) (h2 : ¬(4 ≤ l.length ∧ l.getD 0 0 = 2)) :
    Calls Try.prog 31 #[x] w fun e w' => e = .returned (.tuple #[.int .i64 (colourOf l).1, .int .i64 (colourOf l).2]) ∧ w = w' := by
  obtain ⟨A, c, rfl, hA⟩ := hx.form
  have hC : colourOf l = (-1, 0) := by unfold colourOf; rw [if_neg h5, if_neg h2]
  rw [hC]
  by_cases k2 : 2 ≤ l.length
  · obtain ⟨ad, rfl, hE0⟩ := hA 0 (by omega)
    rw [ints_get (by omega), add_none] at hE0
    have y5 : l.getD 0 0 ≠ 5 := fun e => h5 ⟨k2, e⟩
    have hd2 : decide ((2 : Int) ≤ l.length) = true := decide_eq_true (by omega)
    have hl0 : (0 : Int) < l.length := by omega
    by_cases k4 : 4 ≤ l.length
    · have y2 : l.getD 0 0 ≠ 2 := fun e => h2 ⟨k4, e⟩
      have hd4 : decide ((4 : Int) ≤ l.length) = true := decide_eq_true (by omega)
      clear hC hA hx h5 h2 k2 k4
      generalize l.getD 0 0 = y at *
      have hy5 : decide (y = 5) = false := decide_eq_false y5
      have hy2 : decide (y = 2) = false := decide_eq_false y2
      go_enter Try.func31, Try.ntmps31
      go_wp2_with fail
      refine bodyPost_ret (v := .tuple #[.int .i64 (-1), .int .i64 0]) (by simp [results, Try.results31, go_sem]) rfl ⟨rfl, rfl⟩
    · have hd4 : decide ((4 : Int) ≤ l.length) = false := decide_eq_false (by omega)
      clear hC hA hx h5 h2 k2
      generalize l.getD 0 0 = y at *
      have hy5 : decide (y = 5) = false := decide_eq_false y5
      go_enter Try.func31, Try.ntmps31
      go_wp2_with fail
      refine bodyPost_ret (v := .tuple #[.int .i64 (-1), .int .i64 0]) (by simp [results, Try.results31, go_sem]) rfl ⟨rfl, rfl⟩
  · have hd2 : decide ((2 : Int) ≤ l.length) = false := decide_eq_false (by omega)
    have hd4 : decide ((4 : Int) ≤ l.length) = false := decide_eq_false (by omega)
    clear hC hA hx h5 h2
    go_enter Try.func31, Try.ntmps31
    go_wp2_with fail
    refine bodyPost_ret (v := .tuple #[.int .i64 (-1), .int .i64 0]) (by simp [results, Try.results31, go_sem]) rfl ⟨rfl, rfl⟩
end Sgr
end Go.Proofs.Ytabplmhmanbmjaa
