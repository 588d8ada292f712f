/- How cells look, the reference's side: the colour behind 38;2 and 48;2. -/
import Derived.Test.YtabplmhmanbmjaaSgrRef4
namespace Go.Proofs.Ytabplmhmanbmjaa
set_option maxRecDepth 100000
open Go.RowKit
namespace Sgr

/-- One byte more of a colour. -/
def rgbRun (l : List Int) : Nat → Int
  | 0 => 0
  | k + 1 => 256 * rgbRun l k + max 0 (l.getD (k + 1) 0)
theorem rgbRun_ok (l : List Int) : ∀ k, (∀ j, j < k → max 0 (l.getD (j + 1) 0) ≤ 255) → 0 ≤ rgbRun l k ∧ rgbRun l k < 256 ^ k
  | 0, _ => by simp [rgbRun]
  | k + 1, h => by
    have h1 := rgbRun_ok l k fun j hj => h j (by omega)
    have h2 := h k (by omega)
    have : (256 : Int) ^ (k + 1) = 256 ^ k * 256 := Int.pow_succ ..
    simp only [rgbRun]
    omega
set_option maxHeartbeats 800000 in
theorem colour2 (l : List Int) (x : Value) (w : World) (hx : Src w x l.length (ints l)) (hl : l.length ≤ 1000000000)
    (h4 : 4 ≤ l.length) (h2 : l.getD 0 0 = 2) (hr : ∀ k, k < l.length → -1 ≤ l.getD k 0 ∧ l.getD k 0 ≤ 9999) :
    Calls Try.prog 31 #[x] w fun e w' => e = .returned (.tuple #[.int .i64 (colourOf l).1, .int .i64 (colourOf l).2]) ∧ w = w' := by
  obtain ⟨A, c, rfl, hA⟩ := hx.form
  obtain ⟨ad, rfl, hE0⟩ := hA 0 (by omega)
  have hE00 : w.cell? ad = some (.int .i64 2) := by rwa [add_none, ints_get (by omega), h2] at hE0
  have HG : Hid (∀ k, k < l.length → w.cell? (ad.add k) = some (.int .i64 (l.getD k 0))) := Lib.hid fun k hk => by
    obtain ⟨ad', e', he⟩ := hA k hk
    obtain rfl : ad = ad' := by simpa using e'
    rwa [ints_get hk] at he
  have HC : Hid (colourOf l = (rgbOf (l.getD 1 0) (l.getD 2 0) (l.getD 3 0), 4)) := Lib.hid (by unfold colourOf; rw [if_neg (by omega), if_pos ⟨h4, h2⟩])
  have HR := Lib.hid hr
  clear hA hx h2 hr hE0
  have hd2 : decide ((2 : Int) ≤ l.length) = true := decide_eq_true (by omega)
  have hd4 : decide ((4 : Int) ≤ l.length) = true := decide_eq_true (by omega)
  have hl0 : (0 : Int) < l.length := by omega
  go_enter Try.func31, Try.ntmps31
  go_wp2_with fail
  go_loopw [5, 6] (fun s i wr => ∃ k : Nat, k ≤ 3 ∧ s = .int .i64 (rgbRun l k) ∧ i = .int .i64 ((k : Int) + 1) ∧ wr = w ∧ Hid (∀ j, j < k → max 0 (l.getD (j + 1) 0) ≤ 255)) (fun _ i _ => 4 - (intOf i).toNat)
  case atStart => exact ⟨0, by omega, rfl, rfl, rfl, Lib.hid fun j hj => absurd hj (Nat.not_lt_zero _)⟩
  case round =>
    obtain ⟨k, hk, rfl, rfl, rfl, HB⟩ := hrel
    have hq := rgbRun_ok l k HB.out
    by_cases hlt : k < 3
    · have hk4 : decide ((k : Int) + 1 < 4) = true := decide_eq_true (by omega)
      have hkl : (k : Int) + 1 < l.length := by omega
      have hE := HG.out (k + 1) (by omega)
      rw [add_some] at hE
      have HY := Lib.hid (HR.out (k + 1) (by omega))
      have HS : Hid (rgbRun l (k + 1) = 256 * rgbRun l k + max 0 (l.getD (k + 1) 0)) := Lib.hid rfl
      have HW : Hid (max 0 (l.getD (k + 1) 0) ≤ 255 → ∀ j, j < k + 1 → max 0 (l.getD (j + 1) 0) ≤ 255) := Lib.hid fun h j hj => by
        by_cases e : j = k
        · rw [e]; exact h
        · exact HB.out j (by omega)
      have HN : Hid (255 < max 0 (l.getD (k + 1) 0) → colourOf l = (-1, 4)) := Lib.hid fun h => by
        rw [HC.out]; unfold rgbOf
        have : k = 0 ∨ k = 1 ∨ k = 2 := by omega
        rw [if_pos (by rcases this with rfl | rfl | rfl; exact Or.inl h; exact Or.inr (Or.inl h); exact Or.inr (Or.inr h))]
      have hq3 : 0 ≤ rgbRun l k ∧ rgbRun l k < 65536 := by
        have h9 : (256 : Int) ^ k ≤ 256 ^ 2 := by
          have : k = 0 ∨ k = 1 ∨ k = 2 := by omega
          rcases this with rfl | rfl | rfl <;> decide
        omega
      clear hq
      generalize hy : l.getD (k + 1) 0 = y at *
      have HZ := Lib.hid hy
      clear hy
      obtain ⟨hq1, hq2⟩ := hq3
      have HX : Hid (max 0 y ≤ 255 → Hid (rgbRun l (k + 1) = 256 * rgbRun l k + max 0 y)) := Lib.hid fun _ => HS
      clear HS
      generalize hs : rgbRun l k = s at *
      have HT := Lib.hid hs
      clear hs
      by_cases hp : 0 < y
      · have hm : max 0 y = y := by omega
        rw [hm] at HW HN HX
        clear hm
        by_cases hg : 255 < y
        · have H := Lib.hid (HN.out hg)
          clear HN HW HX
          go_wp2_with fail
          refine bodyPost_ret (v := .tuple #[.int .i64 (-1), .int .i64 4]) (by simp [results, Try.results31, go_sem]) rfl ⟨by rw [H.out], rfl⟩
        · have hd : decide (255 < y) = false := decide_eq_false hg
          have H := HX.out (by omega)
          have H2 := Lib.hid (HW.out (by omega))
          clear HN HW HX hg
          go_wp2_with fail
          go_roundw
          case rel => exact ⟨k + 1, by omega, by rw [H.out]; exact congrArg (Value.int .i64) (by have := HY.out; unfold wrap64; omega), by go_num, by trivial, H2⟩
          case measure => simp [intOf]; omega
      · have hm : max 0 y = 0 := by omega
        have hpd : decide (0 < y) = false := decide_eq_false hp
        rw [hm] at HW HN HX
        clear hm
        have H := HX.out (by omega)
        have H2 := Lib.hid (HW.out (by omega))
        clear HN HW HX
        go_wp2_with fail
        go_roundw
        case rel => exact ⟨k + 1, by omega, by rw [H.out, Int.add_zero], by go_num, by trivial, H2⟩
        case measure => simp [intOf]; omega
    · have hk3 : k = 3 := by omega
      have hk4 : decide ((k : Int) + 1 < 4) = false := decide_eq_false (by omega)
      have HF : Hid (colourOf l = (256 + rgbRun l k, 4)) := Lib.hid (by
        subst hk3
        have b0 : max 0 (l.getD 1 0) ≤ 255 := HB.out 0 (by omega)
        have b1 : max 0 (l.getD 2 0) ≤ 255 := HB.out 1 (by omega)
        have b2 : max 0 (l.getD 3 0) ≤ 255 := HB.out 2 (by omega)
        rw [HC.out]; unfold rgbOf; rw [if_neg (by omega)]
        have e : rgbRun l 3 = 256 * (256 * (256 * 0 + max 0 (l.getD 1 0)) + max 0 (l.getD 2 0)) + max 0 (l.getD 3 0) := rfl
        rw [Prod.mk.injEq]; exact ⟨by omega, rfl⟩)
      have hq2 : rgbRun l k < 16777216 := by subst hk3; omega
      have hq1 : 0 ≤ rgbRun l k := hq.1
      clear hq hlt hk3
      generalize rgbRun l k = s at *
      go_wp2_with fail
      refine bodyPost_ret (v := .tuple #[.int .i64 (256 + s), .int .i64 4]) (by simp [results, Try.results31, go_sem]) rfl ⟨by rw [HF.out], rfl⟩
/-- What the reference reads behind 38 and 48. -/
theorem colour_any (l : List Int) (x : Value) (w : World) (hx : Src w x l.length (ints l)) (hl : l.length ≤ 1000000000) (hr : ∀ k, k < l.length → -1 ≤ l.getD k 0 ∧ l.getD k 0 ≤ 9999) :
    Calls Try.prog 31 #[x] w fun e w' => e = .returned (.tuple #[.int .i64 (colourOf l).1, .int .i64 (colourOf l).2]) ∧ w = w' := by
  by_cases h5 : 2 ≤ l.length ∧ l.getD 0 0 = 5
  · exact colour5 l x w hx hl h5.1 h5.2 (hr 1 (by omega))
  by_cases h2 : 4 ≤ l.length ∧ l.getD 0 0 = 2
  · exact colour2 l x w hx hl h2.1 h2.2 hr
  exact colour_no l x w hx hl h5 h2
end Sgr
end Go.Proofs.Ytabplmhmanbmjaa
