/- The developers' grids, the small functions: numbers within bounds, sides, who paints, blanks. -/
import Derived.Test.YthkfcfmnccfbnaaGrdMem
import Derived.Test.YthkfcfmnccfbnaaRowErase
namespace Go.Proofs.Ythkfcfmnccfbnaa
set_option maxRecDepth 100000
open Go.RowKit
namespace Row

theorem gridIn_at (n lo hi : Int) (b : Bool) (hb : rng n lo hi = b) (w : World) : Calls Try.prog 24 #[.int .i64 n, .int .i64 lo, .int .i64 hi] w fun e w' => e = .returned (.bool b) ∧ w = w' := by
  subst hb
  by_cases h : lo ≤ n
  · by_cases k : n ≤ hi
    · have H : Hid (rng n lo hi = true) := Lib.hid (by unfold rng; rw [decide_eq_true h, decide_eq_true k]; rfl)
      go_enter Try.func24, Try.ntmps24
      go_wp2_with fail
      go_ret
      exact ⟨ret_bool H.out.symm, rfl⟩
    · have H : Hid (rng n lo hi = false) := Lib.hid (by unfold rng; rw [decide_eq_false k, Bool.and_false])
      have hd : decide (n ≤ hi) = false := decide_eq_false k
      go_enter Try.func24, Try.ntmps24
      go_wp2_with fail
      go_ret
      exact ⟨ret_bool H.out.symm, rfl⟩
  · have H : Hid (rng n lo hi = false) := Lib.hid (by unfold rng; rw [decide_eq_false h, Bool.false_and])
    have hd : decide (lo ≤ n) = false := decide_eq_false h
    go_enter Try.func24, Try.ntmps24
    go_wp2_with fail
    go_ret
    exact ⟨ret_bool H.out.symm, rfl⟩
def sidesOk (r c : Int) : Bool := rng r 1 40 && rng c 1 40
theorem sidesOk_iff (r c : Int) : sidesOk r c = true ↔ (1 ≤ r ∧ r ≤ 40) ∧ (1 ≤ c ∧ c ≤ 40) := by unfold sidesOk rng; simp [and_assoc]
theorem sides_at (r c : Int) (b : Bool) (hb : sidesOk r c = b) (w : World) : Calls Try.prog 12 #[.int .i64 r, .int .i64 c] w fun e w' => e = .returned (.bool b) ∧ w = w' := by
  subst hb
  cases h1 : rng r 1 40 with
  | false =>
    have H1 := Lib.hid h1
    have H : Hid (sidesOk r c = false) := Lib.hid (by unfold sidesOk; rw [h1]; rfl)
    clear h1
    go_enter Try.func12, Try.ntmps12
    go_wp2_with fail
    refine (gridIn_at _ _ _ _ H1.out _).mono ?_; rintro e w' ⟨rfl, rfl⟩
    go_wp2_with fail
    go_ret
    exact ⟨ret_bool H.out.symm, rfl⟩
  | true =>
    have H1 := Lib.hid h1
    have H : Hid (sidesOk r c = rng c 1 40) := Lib.hid (by unfold sidesOk; rw [h1]; rfl)
    clear h1
    go_enter Try.func12, Try.ntmps12
    go_wp2_with fail
    refine (gridIn_at r _ _ _ H1.out _).mono ?_; rintro e w' ⟨rfl, rfl⟩
    go_wp2_with fail
    refine (gridIn_at c _ _ _ rfl _).mono ?_; rintro e w' ⟨rfl, rfl⟩
    go_wp2_with fail
    go_ret
    exact ⟨ret_bool H.out.symm, rfl⟩
set_option maxHeartbeats 800000 in
theorem paints_at (a : Look) (b : Bool) (hb : attrOk a = b) (w : World) : Calls Try.prog 20 #[.agg #[.int .i64 a.fg, .int .i64 a.bg, .int .i64 a.flags]] w fun e w' => e = .returned (.bool b) ∧ Below w.heap.size w w' := by
  have HB0 : Hid (Below w.heap.size w (w.alloc (.cells #[.int .i64 a.fg, .int .i64 a.bg, .int .i64 a.flags] 33))) := Lib.hid ((Below.refl _ _).alloc (Nat.le_refl _) _)
  cases b with
  | true =>
    have HBK := Lib.hid (fun w' => rowBlank_fits 1 a w' (by omega) (by omega) hb)
    clear hb
    go_enter Try.func20, Try.ntmps20
    go_wp2_with fail
    refine (HBK.out _).mono ?_; rintro e w2 ⟨v, rfl, ho, hb2⟩
    have HB2 : Hid (Below w.heap.size w w2) := Lib.hid (HB0.out.trans (hb2.mono (by simp)))
    clear ho hb2
    go_wp2_with fail
    go_ret
    exact ⟨rfl, HB2.out⟩
  | false =>
    have HBK := Lib.hid (fun w' => rowBlank_no 1 a w' (by rw [hb]; simp))
    clear hb
    go_enter Try.func20, Try.ntmps20
    go_wp2_with fail
    refine (HBK.out _).mono ?_; rintro e w2 ⟨rfl, hb2⟩
    have HB2 : Hid (Below w.heap.size w w2) := Lib.hid (HB0.out.trans (hb2.mono (by simp)))
    clear hb2
    go_wp2_with fail
    go_ret
    exact ⟨rfl, HB2.out⟩
set_option maxHeartbeats 800000 in
theorem gridBlanks_any (n : Nat) (a : Look) (w : World) (h1 : 1 ≤ n) (h2 : n ≤ 40) (ha : attrOk a = true) :
    Calls Try.prog 33 #[.int .i64 n, .agg #[.int .i64 a.fg, .int .i64 a.bg, .int .i64 a.flags]] w fun e w' => ∃ v, e = .returned v ∧ OwnCs w' w.heap.size v (blankRow n a) ∧ Below w.heap.size w w' := by
  have HB0 : Hid (Below w.heap.size w (w.alloc (.cells #[.int .i64 a.fg, .int .i64 a.bg, .int .i64 a.flags] 33))) := Lib.hid ((Below.refl _ _).alloc (Nat.le_refl _) _)
  have HBK := Lib.hid (fun w' => rowBlank_fits n a w' h1 h2 ha)
  clear ha
  go_enter Try.func33, Try.ntmps33
  go_wp2_with fail
  refine (HBK.out _).mono ?_; rintro e w2 ⟨v, rfl, ho, hb2⟩
  have HB2 : Hid (Below w.heap.size w w2) := Lib.hid (HB0.out.trans (hb2.mono (by simp)))
  have HO : Hid (OwnCs w2 w.heap.size v (blankRow n a)) := Lib.hid (ho.low (by simp))
  clear ho hb2
  go_wp2_with fail
  go_ret
  exact ⟨v, rfl, HO.out, HB2.out⟩
end Row
end Go.Proofs.Ythkfcfmnccfbnaa
