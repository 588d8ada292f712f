/- Small contracts that rows stand on: numbers within bounds, how a cell may look, the width of a rune. -/
import Derived.Test.YthkfcfmnccfbnaaRecs
import Derived.Test.YthkfcfmnccfbnaaBlk
import Derived.Test.YthkfcfmnccfbnaaWid
import Derived.Test.YthkfcfmnccfbnaaWidRef
import Derived.Test.YthkfcfmnccfbnaaRowPlain
namespace Go.Proofs.Ythkfcfmnccfbnaa
set_option maxRecDepth 100000
open Go.RowKit
namespace Row
open Wid

theorem sgrIn_any (n lo hi : Int) (w : World) : Calls Try.prog 47 #[.int .i64 n, .int .i64 lo, .int .i64 hi] w fun e w' => e = .returned (.bool (rng n lo hi)) ∧ w = w' := by
  by_cases h : lo ≤ n
  · by_cases k : n ≤ hi
    · have H : Hid (rng n lo hi = true) := Lib.hid (by unfold rng; rw [decide_eq_true h, decide_eq_true k]; rfl)
      go_enter Try.func47, Try.ntmps47
      go_wp2_with fail
      go_ret
      exact ⟨ret_bool H.out.symm, rfl⟩
    · have H : Hid (rng n lo hi = false) := Lib.hid (by unfold rng; rw [decide_eq_false k, Bool.and_false])
      have hd : decide (n ≤ hi) = false := decide_eq_false k
      go_enter Try.func47, Try.ntmps47
      go_wp2_with fail
      go_ret
      exact ⟨ret_bool H.out.symm, rfl⟩
  · have H : Hid (rng n lo hi = false) := Lib.hid (by unfold rng; rw [decide_eq_false h, Bool.false_and])
    have hd : decide (lo ≤ n) = false := decide_eq_false h
    go_enter Try.func47, Try.ntmps47
    go_wp2_with fail
    go_ret
    exact ⟨ret_bool H.out.symm, rfl⟩

set_option maxHeartbeats 800000 in
/-- Check: no error of what may be, the other of what may not. -/
theorem check_any (a : Look) (b : Bool) (hb : attrOk a = b) (w : World) : Calls Try.prog 38 #[.agg #[.int .i64 a.fg, .int .i64 a.bg, .int .i64 a.flags]] w fun e w' => e = .returned (.int .i64 (bif b then 0 else 1)) ∧ Below w.heap.size w w' := by
  have HB : Hid (Below w.heap.size w (w.alloc (.cells #[.int .i64 a.fg, .int .i64 a.bg, .int .i64 a.flags] 33))) := Lib.hid ((Below.refl _ _).alloc (Nat.le_refl _) _)
  cases h1 : colourOk a.fg with
  | false =>
    have e : b = false := by rw [← hb]; unfold attrOk; rw [h1]; rfl
    have H1 : Hid (rng a.fg (-1) 16777471 = false) := Lib.hid h1
    subst e
    clear hb h1
    go_enter Try.func38, Try.ntmps38
    go_wp2_with fail
    refine (sgrIn_any _ _ _ _).mono ?_; rw [H1.out]; rintro e w' ⟨rfl, rfl⟩
    go_wp2_with fail
    go_ret
    exact ⟨rfl, HB.out⟩
  | true =>
    have H1 : Hid (rng a.fg (-1) 16777471 = true) := Lib.hid h1
    cases h2 : colourOk a.bg with
    | false =>
      have e : b = false := by rw [← hb]; unfold attrOk; rw [h1, h2]; rfl
      have H2 : Hid (rng a.bg (-1) 16777471 = false) := Lib.hid h2
      subst e
      clear hb h1 h2
      go_enter Try.func38, Try.ntmps38
      go_wp2_with fail
      refine (sgrIn_any a.fg _ _ _).mono ?_; rw [H1.out]; rintro e w' ⟨rfl, rfl⟩
      go_wp2_with fail
      refine (sgrIn_any a.bg _ _ _).mono ?_; rw [H2.out]; rintro e w' ⟨rfl, rfl⟩
      go_wp2_with fail
      go_ret
      exact ⟨rfl, HB.out⟩
    | true =>
      have H2 : Hid (rng a.bg (-1) 16777471 = true) := Lib.hid h2
      have H3 : Hid (rng a.flags 0 255 = b) := Lib.hid (by rw [← hb]; unfold attrOk; rw [h1, h2]; rfl)
      clear hb h1 h2
      cases b
      all_goals
        go_enter Try.func38, Try.ntmps38
        go_wp2_with fail
        refine (sgrIn_any a.fg _ _ _).mono ?_; rw [H1.out]; rintro e w' ⟨rfl, rfl⟩
        go_wp2_with fail
        refine (sgrIn_any a.bg _ _ _).mono ?_; rw [H2.out]; rintro e w' ⟨rfl, rfl⟩
        go_wp2_with fail
        refine (sgrIn_any a.flags _ _ _).mono ?_; rw [H3.out]; rintro e w' ⟨rfl, rfl⟩
        go_wp2_with fail
        go_ret
        exact ⟨rfl, HB.out⟩

theorem rowIn_any (n lo hi : Int) (w : World) : Calls Try.prog 26 #[.int .i64 n, .int .i64 lo, .int .i64 hi] w fun e w' => e = .returned (.bool (rng n lo hi)) ∧ w = w' := by
  by_cases h : lo ≤ n
  · by_cases k : n ≤ hi
    · have H : Hid (rng n lo hi = true) := Lib.hid (by unfold rng; rw [decide_eq_true h, decide_eq_true k]; rfl)
      go_enter Try.func26, Try.ntmps26
      go_wp2_with fail
      go_ret
      exact ⟨ret_bool H.out.symm, rfl⟩
    · have H : Hid (rng n lo hi = false) := Lib.hid (by unfold rng; rw [decide_eq_false k, Bool.and_false])
      have hd : decide (n ≤ hi) = false := decide_eq_false k
      go_enter Try.func26, Try.ntmps26
      go_wp2_with fail
      go_ret
      exact ⟨ret_bool H.out.symm, rfl⟩
  · have H : Hid (rng n lo hi = false) := Lib.hid (by unfold rng; rw [decide_eq_false h, Bool.false_and])
    have hd : decide (lo ≤ n) = false := decide_eq_false h
    go_enter Try.func26, Try.ntmps26
    go_wp2_with fail
    go_ret
    exact ⟨ret_bool H.out.symm, rfl⟩


@[go_sem] theorem w_is_none_none (v : Value) (w : World) : (Instr.typeAssert (.iface 111 v) 109 111 true).run Try.prog w = .ok (.tuple #[v, .bool true]) w := by kernel_rfl
@[go_sem] theorem w_is_none_mark (v : Value) (w : World) : (Instr.typeAssert (.iface 113 v) 109 111 true).run Try.prog w = .ok (.tuple #[.agg #[], .bool false]) w := by kernel_rfl
@[go_sem] theorem w_is_none_cells (v : Value) (w : World) : (Instr.typeAssert (.iface 115 v) 109 111 true).run Try.prog w = .ok (.tuple #[.agg #[], .bool false]) w := by kernel_rfl
@[go_sem] theorem w_is_mark_mark (v : Value) (w : World) : (Instr.typeAssert (.iface 113 v) 109 113 true).run Try.prog w = .ok (.tuple #[v, .bool true]) w := by kernel_rfl
@[go_sem] theorem w_is_mark_cells (v : Value) (w : World) : (Instr.typeAssert (.iface 115 v) 109 113 true).run Try.prog w = .ok (.tuple #[.agg #[], .bool false]) w := by kernel_rfl
@[go_sem] theorem w_must_cells (v : Value) (w : World) : (Instr.typeAssert (.iface 115 v) 109 115 false).run Try.prog w = .ok v w := by kernel_rfl
@[go_sem] theorem w_is_cells_cells (v : Value) (w : World) : (Instr.typeAssert (.iface 115 v) 109 115 true).run Try.prog w = .ok (.tuple #[v, .bool true]) w := by kernel_rfl
@[go_sem] theorem w_is_cells_none (v : Value) (w : World) : (Instr.typeAssert (.iface 111 v) 109 115 true).run Try.prog w = .ok (.tuple #[.int .i64 0, .bool false]) w := by kernel_rfl
@[go_sem] theorem w_is_cells_mark (v : Value) (w : World) : (Instr.typeAssert (.iface 113 v) 109 115 true).run Try.prog w = .ok (.tuple #[.int .i64 0, .bool false]) w := by kernel_rfl

theorem kind_cases (r : Int) : (kindOf r = .iface 111 (.agg #[]) ∧ wid r = -1 ∧ adds r = 0) ∨ (kindOf r = .iface 113 (.agg #[]) ∧ wid r = 0 ∧ adds r = 0) ∨
    (kindOf r = .iface 115 (.int .i64 2) ∧ wid r = 2 ∧ adds r = 2) ∨ (kindOf r = .iface 115 (.int .i64 1) ∧ wid r = 1 ∧ adds r = 1) := by
  unfold kindOf wid adds
  cases isNone r <;> cases isMark r <;> cases isWide r <;> simp
theorem look_at (r : Int) (k : Value) (hk : kindOf r = k) (w : World) : Calls Try.prog 53 #[.int .i64 r] w fun e w' => e = .returned k ∧ w = w' := by
  subst hk; exact look_any r w

set_option maxHeartbeats 400000 in
theorem of_any (r : Int) (w : World) : Calls Try.prog 44 #[.int .i64 r] w fun e w' => e = .returned (.int .i64 (wid r)) ∧ Below w.heap.size w w' := by
  rcases kind_cases r with ⟨hk, hw, _⟩ | ⟨hk, hw, _⟩ | ⟨hk, hw, _⟩ | ⟨hk, hw, _⟩
  all_goals
    have HK := Lib.hid hk
    have HW := Lib.hid hw
    clear hk hw
    go_enter Try.func44, Try.ntmps44
    go_wp2_with fail
    refine (look_at r _ HK.out _).mono ?_; rintro e w' ⟨rfl, rfl⟩
    go_wp2_with fail
    go_ret
    exact ⟨ret_int HW.out.symm, by repeat (first | exact Below.refl _ _ | refine Below.alloc ?_ (Nat.le_refl _) _ | refine Below.alloc ?_ (by simp) _ | refine Below.setCell ?_ (by simp) _)⟩


end Row
end Go.Proofs.Ythkfcfmnccfbnaa
