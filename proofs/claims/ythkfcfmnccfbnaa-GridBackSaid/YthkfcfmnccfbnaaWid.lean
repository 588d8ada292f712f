/- Contracts of package width (in, look, Of) and of the reference's (between, Width). -/
import Derived.Test.YthkfcfmnccfbnaaSrc
import Derived.Test.YthkfcfmnccfbnaaWidPlain
namespace Go.Proofs.Ythkfcfmnccfbnaa
open Go.RowKit
namespace Wid

theorem within_yes {r lo hi : Int} (h : lo ≤ r) (k : r ≤ hi) : within r lo hi = true := by unfold within; rw [decide_eq_true h, decide_eq_true k]; rfl
theorem within_low {r lo hi : Int} (h : ¬ lo ≤ r) : within r lo hi = false := by unfold within; rw [decide_eq_false h]; rfl
theorem within_high {r lo hi : Int} (h : ¬ r ≤ hi) : within r lo hi = false := by unfold within; rw [decide_eq_false h]; cases decide (lo ≤ r) <;> rfl

theorem in_any (r lo hi : Int) (w : World) : Calls Try.prog 55 #[.int .i64 r, .int .i64 lo, .int .i64 hi] w fun e w' => e = .returned (.bool (within r lo hi)) ∧ w = w' := by
  by_cases h : lo ≤ r
  · by_cases k : r ≤ hi
    · have H := Lib.hid (within_yes h k)
      go_enter Try.func55, Try.ntmps55
      go_wp2_with fail
      go_ret
      exact ⟨ret_bool H.out.symm, rfl⟩
    · have H := Lib.hid (within_high (lo := lo) k)
      have hd : decide (r ≤ hi) = false := decide_eq_false k
      go_enter Try.func55, Try.ntmps55
      go_wp2_with fail
      go_ret
      exact ⟨ret_bool H.out.symm, rfl⟩
  · have H := Lib.hid (within_low (hi := hi) h)
    have hd : decide (lo ≤ r) = false := decide_eq_false h
    go_enter Try.func55, Try.ntmps55
    go_wp2_with fail
    go_ret
    exact ⟨ret_bool H.out.symm, rfl⟩

/-- The value that look tells. -/
def kindOf (r : Int) : Value := bif isNone r then .iface 111 (.agg #[]) else bif isMark r then .iface 113 (.agg #[]) else bif isWide r then .iface 115 (.int .i64 2) else .iface 115 (.int .i64 1)
theorem ret_val {a b : Value} (h : a = b) : Ending.returned a = .returned b := by rw [h]

set_option maxRecDepth 100000 in
theorem look_0 (r : Int) (w : World) (h0 : decide (r < 32) = true) : Calls Try.prog 53 #[.int .i64 r] w fun e w' => e = .returned (kindOf r) ∧ w = w' := by
  have HK : Hid (.iface 111 (.agg #[]) = kindOf r) := Lib.hid (by unfold kindOf isNone; (rw [h0]) <;> rfl)
  go_enter Try.func53, Try.ntmps53
  go_wp2_with (go_at_call 55; refine (in_any _ _ _ _).mono ?_; rintro e w' ⟨rfl, rfl⟩)
  go_ret
  exact ⟨ret_val HK.out, rfl⟩
set_option maxRecDepth 100000 in
theorem look_1 (r : Int) (w : World) (h0 : decide (r < 32) = false) (h1 : within r 127 159 = true) : Calls Try.prog 53 #[.int .i64 r] w fun e w' => e = .returned (kindOf r) ∧ w = w' := by
  have HK : Hid (.iface 111 (.agg #[]) = kindOf r) := Lib.hid (by unfold kindOf isNone; (rw [h0, h1]) <;> rfl)
  go_enter Try.func53, Try.ntmps53
  go_wp2_with (go_at_call 55; refine (in_any _ _ _ _).mono ?_; rintro e w' ⟨rfl, rfl⟩)
  go_ret
  exact ⟨ret_val HK.out, rfl⟩
set_option maxRecDepth 100000 in
theorem look_2 (r : Int) (w : World) (h0 : decide (r < 32) = false) (h1 : within r 127 159 = false) (h2 : within r 55296 57343 = true) : Calls Try.prog 53 #[.int .i64 r] w fun e w' => e = .returned (kindOf r) ∧ w = w' := by
  have HK : Hid (.iface 111 (.agg #[]) = kindOf r) := Lib.hid (by unfold kindOf isNone; (rw [h0, h1, h2]) <;> rfl)
  go_enter Try.func53, Try.ntmps53
  go_wp2_with (go_at_call 55; refine (in_any _ _ _ _).mono ?_; rintro e w' ⟨rfl, rfl⟩)
  go_ret
  exact ⟨ret_val HK.out, rfl⟩
set_option maxRecDepth 100000 in
theorem look_3 (r : Int) (w : World) (h0 : decide (r < 32) = false) (h1 : within r 127 159 = false) (h2 : within r 55296 57343 = false) (h3 : decide (1114111 < r) = true) : Calls Try.prog 53 #[.int .i64 r] w fun e w' => e = .returned (kindOf r) ∧ w = w' := by
  have HK : Hid (.iface 111 (.agg #[]) = kindOf r) := Lib.hid (by unfold kindOf isNone; (rw [h0, h1, h2, h3]) <;> rfl)
  go_enter Try.func53, Try.ntmps53
  go_wp2_with (go_at_call 55; refine (in_any _ _ _ _).mono ?_; rintro e w' ⟨rfl, rfl⟩)
  go_ret
  exact ⟨ret_val HK.out, rfl⟩
set_option maxRecDepth 100000 in
theorem look_4 (r : Int) (w : World) (h0 : decide (r < 32) = false) (h1 : within r 127 159 = false) (h2 : within r 55296 57343 = false) (h3 : decide (1114111 < r) = false) (h4 : within r 768 879 = true) : Calls Try.prog 53 #[.int .i64 r] w fun e w' => e = .returned (kindOf r) ∧ w = w' := by
  have HK : Hid (.iface 113 (.agg #[]) = kindOf r) := Lib.hid (by unfold kindOf isNone isMark; (rw [h0, h1, h2, h3, h4]) <;> rfl)
  go_enter Try.func53, Try.ntmps53
  go_wp2_with (go_at_call 55; refine (in_any _ _ _ _).mono ?_; rintro e w' ⟨rfl, rfl⟩)
  go_ret
  exact ⟨ret_val HK.out, rfl⟩
set_option maxRecDepth 100000 in
theorem look_5 (r : Int) (w : World) (h0 : decide (r < 32) = false) (h1 : within r 127 159 = false) (h2 : within r 55296 57343 = false) (h3 : decide (1114111 < r) = false) (h4 : within r 768 879 = false) (h5 : within r 6832 6911 = true) : Calls Try.prog 53 #[.int .i64 r] w fun e w' => e = .returned (kindOf r) ∧ w = w' := by
  have HK : Hid (.iface 113 (.agg #[]) = kindOf r) := Lib.hid (by unfold kindOf isNone isMark; (rw [h0, h1, h2, h3, h4, h5]) <;> rfl)
  go_enter Try.func53, Try.ntmps53
  go_wp2_with (go_at_call 55; refine (in_any _ _ _ _).mono ?_; rintro e w' ⟨rfl, rfl⟩)
  go_ret
  exact ⟨ret_val HK.out, rfl⟩
set_option maxRecDepth 100000 in
theorem look_6 (r : Int) (w : World) (h0 : decide (r < 32) = false) (h1 : within r 127 159 = false) (h2 : within r 55296 57343 = false) (h3 : decide (1114111 < r) = false) (h4 : within r 768 879 = false) (h5 : within r 6832 6911 = false) (h6 : within r 8203 8207 = true) : Calls Try.prog 53 #[.int .i64 r] w fun e w' => e = .returned (kindOf r) ∧ w = w' := by
  have HK : Hid (.iface 113 (.agg #[]) = kindOf r) := Lib.hid (by unfold kindOf isNone isMark; (rw [h0, h1, h2, h3, h4, h5, h6]) <;> rfl)
  go_enter Try.func53, Try.ntmps53
  go_wp2_with (go_at_call 55; refine (in_any _ _ _ _).mono ?_; rintro e w' ⟨rfl, rfl⟩)
  go_ret
  exact ⟨ret_val HK.out, rfl⟩
set_option maxRecDepth 100000 in
theorem look_7 (r : Int) (w : World) (h0 : decide (r < 32) = false) (h1 : within r 127 159 = false) (h2 : within r 55296 57343 = false) (h3 : decide (1114111 < r) = false) (h4 : within r 768 879 = false) (h5 : within r 6832 6911 = false) (h6 : within r 8203 8207 = false) (h7 : within r 8400 8447 = true) : Calls Try.prog 53 #[.int .i64 r] w fun e w' => e = .returned (kindOf r) ∧ w = w' := by
  have HK : Hid (.iface 113 (.agg #[]) = kindOf r) := Lib.hid (by unfold kindOf isNone isMark; (rw [h0, h1, h2, h3, h4, h5, h6, h7]) <;> rfl)
  go_enter Try.func53, Try.ntmps53
  go_wp2_with (go_at_call 55; refine (in_any _ _ _ _).mono ?_; rintro e w' ⟨rfl, rfl⟩)
  go_ret
  exact ⟨ret_val HK.out, rfl⟩
set_option maxRecDepth 100000 in
theorem look_8 (r : Int) (w : World) (h0 : decide (r < 32) = false) (h1 : within r 127 159 = false) (h2 : within r 55296 57343 = false) (h3 : decide (1114111 < r) = false) (h4 : within r 768 879 = false) (h5 : within r 6832 6911 = false) (h6 : within r 8203 8207 = false) (h7 : within r 8400 8447 = false) (h8 : within r 65024 65039 = true) : Calls Try.prog 53 #[.int .i64 r] w fun e w' => e = .returned (kindOf r) ∧ w = w' := by
  have HK : Hid (.iface 113 (.agg #[]) = kindOf r) := Lib.hid (by unfold kindOf isNone isMark; (rw [h0, h1, h2, h3, h4, h5, h6, h7, h8]) <;> rfl)
  go_enter Try.func53, Try.ntmps53
  go_wp2_with (go_at_call 55; refine (in_any _ _ _ _).mono ?_; rintro e w' ⟨rfl, rfl⟩)
  go_ret
  exact ⟨ret_val HK.out, rfl⟩
set_option maxRecDepth 100000 in
theorem look_9 (r : Int) (w : World) (h0 : decide (r < 32) = false) (h1 : within r 127 159 = false) (h2 : within r 55296 57343 = false) (h3 : decide (1114111 < r) = false) (h4 : within r 768 879 = false) (h5 : within r 6832 6911 = false) (h6 : within r 8203 8207 = false) (h7 : within r 8400 8447 = false) (h8 : within r 65024 65039 = false) (h9 : within r 65056 65071 = true) : Calls Try.prog 53 #[.int .i64 r] w fun e w' => e = .returned (kindOf r) ∧ w = w' := by
  have HK : Hid (.iface 113 (.agg #[]) = kindOf r) := Lib.hid (by unfold kindOf isNone isMark; (rw [h0, h1, h2, h3, h4, h5, h6, h7, h8, h9]) <;> rfl)
  go_enter Try.func53, Try.ntmps53
  go_wp2_with (go_at_call 55; refine (in_any _ _ _ _).mono ?_; rintro e w' ⟨rfl, rfl⟩)
  go_ret
  exact ⟨ret_val HK.out, rfl⟩
set_option maxRecDepth 100000 in
theorem look_10 (r : Int) (w : World) (h0 : decide (r < 32) = false) (h1 : within r 127 159 = false) (h2 : within r 55296 57343 = false) (h3 : decide (1114111 < r) = false) (h4 : within r 768 879 = false) (h5 : within r 6832 6911 = false) (h6 : within r 8203 8207 = false) (h7 : within r 8400 8447 = false) (h8 : within r 65024 65039 = false) (h9 : within r 65056 65071 = false) (h10 : within r 4352 4447 = true) : Calls Try.prog 53 #[.int .i64 r] w fun e w' => e = .returned (kindOf r) ∧ w = w' := by
  have HK : Hid (.iface 115 (.int .i64 2) = kindOf r) := Lib.hid (by unfold kindOf isNone isMark isWide; (rw [h0, h1, h2, h3, h4, h5, h6, h7, h8, h9, h10]) <;> rfl)
  go_enter Try.func53, Try.ntmps53
  go_wp2_with (go_at_call 55; refine (in_any _ _ _ _).mono ?_; rintro e w' ⟨rfl, rfl⟩)
  go_ret
  exact ⟨ret_val HK.out, rfl⟩
set_option maxRecDepth 100000 in
theorem look_11 (r : Int) (w : World) (h0 : decide (r < 32) = false) (h1 : within r 127 159 = false) (h2 : within r 55296 57343 = false) (h3 : decide (1114111 < r) = false) (h4 : within r 768 879 = false) (h5 : within r 6832 6911 = false) (h6 : within r 8203 8207 = false) (h7 : within r 8400 8447 = false) (h8 : within r 65024 65039 = false) (h9 : within r 65056 65071 = false) (h10 : within r 4352 4447 = false) (h11 : within r 11904 12350 = true) : Calls Try.prog 53 #[.int .i64 r] w fun e w' => e = .returned (kindOf r) ∧ w = w' := by
  have HK : Hid (.iface 115 (.int .i64 2) = kindOf r) := Lib.hid (by unfold kindOf isNone isMark isWide; (rw [h0, h1, h2, h3, h4, h5, h6, h7, h8, h9, h10, h11]) <;> rfl)
  go_enter Try.func53, Try.ntmps53
  go_wp2_with (go_at_call 55; refine (in_any _ _ _ _).mono ?_; rintro e w' ⟨rfl, rfl⟩)
  go_ret
  exact ⟨ret_val HK.out, rfl⟩
set_option maxRecDepth 100000 in
theorem look_12 (r : Int) (w : World) (h0 : decide (r < 32) = false) (h1 : within r 127 159 = false) (h2 : within r 55296 57343 = false) (h3 : decide (1114111 < r) = false) (h4 : within r 768 879 = false) (h5 : within r 6832 6911 = false) (h6 : within r 8203 8207 = false) (h7 : within r 8400 8447 = false) (h8 : within r 65024 65039 = false) (h9 : within r 65056 65071 = false) (h10 : within r 4352 4447 = false) (h11 : within r 11904 12350 = false) (h12 : within r 12353 42191 = true) : Calls Try.prog 53 #[.int .i64 r] w fun e w' => e = .returned (kindOf r) ∧ w = w' := by
  have HK : Hid (.iface 115 (.int .i64 2) = kindOf r) := Lib.hid (by unfold kindOf isNone isMark isWide; (rw [h0, h1, h2, h3, h4, h5, h6, h7, h8, h9, h10, h11, h12]) <;> rfl)
  go_enter Try.func53, Try.ntmps53
  go_wp2_with (go_at_call 55; refine (in_any _ _ _ _).mono ?_; rintro e w' ⟨rfl, rfl⟩)
  go_ret
  exact ⟨ret_val HK.out, rfl⟩
set_option maxRecDepth 100000 in
theorem look_13 (r : Int) (w : World) (h0 : decide (r < 32) = false) (h1 : within r 127 159 = false) (h2 : within r 55296 57343 = false) (h3 : decide (1114111 < r) = false) (h4 : within r 768 879 = false) (h5 : within r 6832 6911 = false) (h6 : within r 8203 8207 = false) (h7 : within r 8400 8447 = false) (h8 : within r 65024 65039 = false) (h9 : within r 65056 65071 = false) (h10 : within r 4352 4447 = false) (h11 : within r 11904 12350 = false) (h12 : within r 12353 42191 = false) (h13 : within r 44032 55203 = true) : Calls Try.prog 53 #[.int .i64 r] w fun e w' => e = .returned (kindOf r) ∧ w = w' := by
  have HK : Hid (.iface 115 (.int .i64 2) = kindOf r) := Lib.hid (by unfold kindOf isNone isMark isWide; (rw [h0, h1, h2, h3, h4, h5, h6, h7, h8, h9, h10, h11, h12, h13]) <;> rfl)
  go_enter Try.func53, Try.ntmps53
  go_wp2_with (go_at_call 55; refine (in_any _ _ _ _).mono ?_; rintro e w' ⟨rfl, rfl⟩)
  go_ret
  exact ⟨ret_val HK.out, rfl⟩
set_option maxRecDepth 100000 in
theorem look_14 (r : Int) (w : World) (h0 : decide (r < 32) = false) (h1 : within r 127 159 = false) (h2 : within r 55296 57343 = false) (h3 : decide (1114111 < r) = false) (h4 : within r 768 879 = false) (h5 : within r 6832 6911 = false) (h6 : within r 8203 8207 = false) (h7 : within r 8400 8447 = false) (h8 : within r 65024 65039 = false) (h9 : within r 65056 65071 = false) (h10 : within r 4352 4447 = false) (h11 : within r 11904 12350 = false) (h12 : within r 12353 42191 = false) (h13 : within r 44032 55203 = false) (h14 : within r 63744 64255 = true) : Calls Try.prog 53 #[.int .i64 r] w fun e w' => e = .returned (kindOf r) ∧ w = w' := by
  have HK : Hid (.iface 115 (.int .i64 2) = kindOf r) := Lib.hid (by unfold kindOf isNone isMark isWide; (rw [h0, h1, h2, h3, h4, h5, h6, h7, h8, h9, h10, h11, h12, h13, h14]) <;> rfl)
  go_enter Try.func53, Try.ntmps53
  go_wp2_with (go_at_call 55; refine (in_any _ _ _ _).mono ?_; rintro e w' ⟨rfl, rfl⟩)
  go_ret
  exact ⟨ret_val HK.out, rfl⟩
set_option maxRecDepth 100000 in
theorem look_15 (r : Int) (w : World) (h0 : decide (r < 32) = false) (h1 : within r 127 159 = false) (h2 : within r 55296 57343 = false) (h3 : decide (1114111 < r) = false) (h4 : within r 768 879 = false) (h5 : within r 6832 6911 = false) (h6 : within r 8203 8207 = false) (h7 : within r 8400 8447 = false) (h8 : within r 65024 65039 = false) (h9 : within r 65056 65071 = false) (h10 : within r 4352 4447 = false) (h11 : within r 11904 12350 = false) (h12 : within r 12353 42191 = false) (h13 : within r 44032 55203 = false) (h14 : within r 63744 64255 = false) (h15 : within r 65072 65135 = true) : Calls Try.prog 53 #[.int .i64 r] w fun e w' => e = .returned (kindOf r) ∧ w = w' := by
  have HK : Hid (.iface 115 (.int .i64 2) = kindOf r) := Lib.hid (by unfold kindOf isNone isMark isWide; (rw [h0, h1, h2, h3, h4, h5, h6, h7, h8, h9, h10, h11, h12, h13, h14, h15]) <;> rfl)
  go_enter Try.func53, Try.ntmps53
  go_wp2_with (go_at_call 55; refine (in_any _ _ _ _).mono ?_; rintro e w' ⟨rfl, rfl⟩)
  go_ret
  exact ⟨ret_val HK.out, rfl⟩
set_option maxRecDepth 100000 in
theorem look_16 (r : Int) (w : World) (h0 : decide (r < 32) = false) (h1 : within r 127 159 = false) (h2 : within r 55296 57343 = false) (h3 : decide (1114111 < r) = false) (h4 : within r 768 879 = false) (h5 : within r 6832 6911 = false) (h6 : within r 8203 8207 = false) (h7 : within r 8400 8447 = false) (h8 : within r 65024 65039 = false) (h9 : within r 65056 65071 = false) (h10 : within r 4352 4447 = false) (h11 : within r 11904 12350 = false) (h12 : within r 12353 42191 = false) (h13 : within r 44032 55203 = false) (h14 : within r 63744 64255 = false) (h15 : within r 65072 65135 = false) (h16 : within r 65280 65376 = true) : Calls Try.prog 53 #[.int .i64 r] w fun e w' => e = .returned (kindOf r) ∧ w = w' := by
  have HK : Hid (.iface 115 (.int .i64 2) = kindOf r) := Lib.hid (by unfold kindOf isNone isMark isWide; (rw [h0, h1, h2, h3, h4, h5, h6, h7, h8, h9, h10, h11, h12, h13, h14, h15, h16]) <;> rfl)
  go_enter Try.func53, Try.ntmps53
  go_wp2_with (go_at_call 55; refine (in_any _ _ _ _).mono ?_; rintro e w' ⟨rfl, rfl⟩)
  go_ret
  exact ⟨ret_val HK.out, rfl⟩
set_option maxRecDepth 100000 in
theorem look_17 (r : Int) (w : World) (h0 : decide (r < 32) = false) (h1 : within r 127 159 = false) (h2 : within r 55296 57343 = false) (h3 : decide (1114111 < r) = false) (h4 : within r 768 879 = false) (h5 : within r 6832 6911 = false) (h6 : within r 8203 8207 = false) (h7 : within r 8400 8447 = false) (h8 : within r 65024 65039 = false) (h9 : within r 65056 65071 = false) (h10 : within r 4352 4447 = false) (h11 : within r 11904 12350 = false) (h12 : within r 12353 42191 = false) (h13 : within r 44032 55203 = false) (h14 : within r 63744 64255 = false) (h15 : within r 65072 65135 = false) (h16 : within r 65280 65376 = false) (h17 : within r 65504 65510 = true) : Calls Try.prog 53 #[.int .i64 r] w fun e w' => e = .returned (kindOf r) ∧ w = w' := by
  have HK : Hid (.iface 115 (.int .i64 2) = kindOf r) := Lib.hid (by unfold kindOf isNone isMark isWide; (rw [h0, h1, h2, h3, h4, h5, h6, h7, h8, h9, h10, h11, h12, h13, h14, h15, h16, h17]) <;> rfl)
  go_enter Try.func53, Try.ntmps53
  go_wp2_with (go_at_call 55; refine (in_any _ _ _ _).mono ?_; rintro e w' ⟨rfl, rfl⟩)
  go_ret
  exact ⟨ret_val HK.out, rfl⟩
set_option maxRecDepth 100000 in
theorem look_18 (r : Int) (w : World) (h0 : decide (r < 32) = false) (h1 : within r 127 159 = false) (h2 : within r 55296 57343 = false) (h3 : decide (1114111 < r) = false) (h4 : within r 768 879 = false) (h5 : within r 6832 6911 = false) (h6 : within r 8203 8207 = false) (h7 : within r 8400 8447 = false) (h8 : within r 65024 65039 = false) (h9 : within r 65056 65071 = false) (h10 : within r 4352 4447 = false) (h11 : within r 11904 12350 = false) (h12 : within r 12353 42191 = false) (h13 : within r 44032 55203 = false) (h14 : within r 63744 64255 = false) (h15 : within r 65072 65135 = false) (h16 : within r 65280 65376 = false) (h17 : within r 65504 65510 = false) (h18 : within r 127744 128591 = true) : Calls Try.prog 53 #[.int .i64 r] w fun e w' => e = .returned (kindOf r) ∧ w = w' := by
  have HK : Hid (.iface 115 (.int .i64 2) = kindOf r) := Lib.hid (by unfold kindOf isNone isMark isWide; (rw [h0, h1, h2, h3, h4, h5, h6, h7, h8, h9, h10, h11, h12, h13, h14, h15, h16, h17, h18]) <;> rfl)
  go_enter Try.func53, Try.ntmps53
  go_wp2_with (go_at_call 55; refine (in_any _ _ _ _).mono ?_; rintro e w' ⟨rfl, rfl⟩)
  go_ret
  exact ⟨ret_val HK.out, rfl⟩
set_option maxRecDepth 100000 in
theorem look_19 (r : Int) (w : World) (h0 : decide (r < 32) = false) (h1 : within r 127 159 = false) (h2 : within r 55296 57343 = false) (h3 : decide (1114111 < r) = false) (h4 : within r 768 879 = false) (h5 : within r 6832 6911 = false) (h6 : within r 8203 8207 = false) (h7 : within r 8400 8447 = false) (h8 : within r 65024 65039 = false) (h9 : within r 65056 65071 = false) (h10 : within r 4352 4447 = false) (h11 : within r 11904 12350 = false) (h12 : within r 12353 42191 = false) (h13 : within r 44032 55203 = false) (h14 : within r 63744 64255 = false) (h15 : within r 65072 65135 = false) (h16 : within r 65280 65376 = false) (h17 : within r 65504 65510 = false) (h18 : within r 127744 128591 = false) (h19 : within r 129280 129535 = true) : Calls Try.prog 53 #[.int .i64 r] w fun e w' => e = .returned (kindOf r) ∧ w = w' := by
  have HK : Hid (.iface 115 (.int .i64 2) = kindOf r) := Lib.hid (by unfold kindOf isNone isMark isWide; (rw [h0, h1, h2, h3, h4, h5, h6, h7, h8, h9, h10, h11, h12, h13, h14, h15, h16, h17, h18, h19]) <;> rfl)
  go_enter Try.func53, Try.ntmps53
  go_wp2_with (go_at_call 55; refine (in_any _ _ _ _).mono ?_; rintro e w' ⟨rfl, rfl⟩)
  go_ret
  exact ⟨ret_val HK.out, rfl⟩
set_option maxRecDepth 100000 in
theorem look_20 (r : Int) (w : World) (h0 : decide (r < 32) = false) (h1 : within r 127 159 = false) (h2 : within r 55296 57343 = false) (h3 : decide (1114111 < r) = false) (h4 : within r 768 879 = false) (h5 : within r 6832 6911 = false) (h6 : within r 8203 8207 = false) (h7 : within r 8400 8447 = false) (h8 : within r 65024 65039 = false) (h9 : within r 65056 65071 = false) (h10 : within r 4352 4447 = false) (h11 : within r 11904 12350 = false) (h12 : within r 12353 42191 = false) (h13 : within r 44032 55203 = false) (h14 : within r 63744 64255 = false) (h15 : within r 65072 65135 = false) (h16 : within r 65280 65376 = false) (h17 : within r 65504 65510 = false) (h18 : within r 127744 128591 = false) (h19 : within r 129280 129535 = false) (h20 : within r 131072 262141 = true) : Calls Try.prog 53 #[.int .i64 r] w fun e w' => e = .returned (kindOf r) ∧ w = w' := by
  have HK : Hid (.iface 115 (.int .i64 2) = kindOf r) := Lib.hid (by unfold kindOf isNone isMark isWide; (rw [h0, h1, h2, h3, h4, h5, h6, h7, h8, h9, h10, h11, h12, h13, h14, h15, h16, h17, h18, h19, h20]) <;> rfl)
  go_enter Try.func53, Try.ntmps53
  go_wp2_with (go_at_call 55; refine (in_any _ _ _ _).mono ?_; rintro e w' ⟨rfl, rfl⟩)
  go_ret
  exact ⟨ret_val HK.out, rfl⟩
set_option maxRecDepth 100000 in
theorem look_21 (r : Int) (w : World) (h0 : decide (r < 32) = false) (h1 : within r 127 159 = false) (h2 : within r 55296 57343 = false) (h3 : decide (1114111 < r) = false) (h4 : within r 768 879 = false) (h5 : within r 6832 6911 = false) (h6 : within r 8203 8207 = false) (h7 : within r 8400 8447 = false) (h8 : within r 65024 65039 = false) (h9 : within r 65056 65071 = false) (h10 : within r 4352 4447 = false) (h11 : within r 11904 12350 = false) (h12 : within r 12353 42191 = false) (h13 : within r 44032 55203 = false) (h14 : within r 63744 64255 = false) (h15 : within r 65072 65135 = false) (h16 : within r 65280 65376 = false) (h17 : within r 65504 65510 = false) (h18 : within r 127744 128591 = false) (h19 : within r 129280 129535 = false) (h20 : within r 131072 262141 = false) : Calls Try.prog 53 #[.int .i64 r] w fun e w' => e = .returned (kindOf r) ∧ w = w' := by
  have HK : Hid (.iface 115 (.int .i64 1) = kindOf r) := Lib.hid (by unfold kindOf isNone isMark isWide; (rw [h0, h1, h2, h3, h4, h5, h6, h7, h8, h9, h10, h11, h12, h13, h14, h15, h16, h17, h18, h19, h20]) <;> rfl)
  go_enter Try.func53, Try.ntmps53
  go_wp2_with (go_at_call 55; refine (in_any _ _ _ _).mono ?_; rintro e w' ⟨rfl, rfl⟩)
  go_ret
  exact ⟨ret_val HK.out, rfl⟩
theorem look_any (r : Int) (w : World) : Calls Try.prog 53 #[.int .i64 r] w fun e w' => e = .returned (kindOf r) ∧ w = w' := by
  cases h0 : decide (r < 32)
  case true => exact look_0 r w h0
  cases h1 : within r 127 159
  case true => exact look_1 r w h0 h1
  cases h2 : within r 55296 57343
  case true => exact look_2 r w h0 h1 h2
  cases h3 : decide (1114111 < r)
  case true => exact look_3 r w h0 h1 h2 h3
  cases h4 : within r 768 879
  case true => exact look_4 r w h0 h1 h2 h3 h4
  cases h5 : within r 6832 6911
  case true => exact look_5 r w h0 h1 h2 h3 h4 h5
  cases h6 : within r 8203 8207
  case true => exact look_6 r w h0 h1 h2 h3 h4 h5 h6
  cases h7 : within r 8400 8447
  case true => exact look_7 r w h0 h1 h2 h3 h4 h5 h6 h7
  cases h8 : within r 65024 65039
  case true => exact look_8 r w h0 h1 h2 h3 h4 h5 h6 h7 h8
  cases h9 : within r 65056 65071
  case true => exact look_9 r w h0 h1 h2 h3 h4 h5 h6 h7 h8 h9
  cases h10 : within r 4352 4447
  case true => exact look_10 r w h0 h1 h2 h3 h4 h5 h6 h7 h8 h9 h10
  cases h11 : within r 11904 12350
  case true => exact look_11 r w h0 h1 h2 h3 h4 h5 h6 h7 h8 h9 h10 h11
  cases h12 : within r 12353 42191
  case true => exact look_12 r w h0 h1 h2 h3 h4 h5 h6 h7 h8 h9 h10 h11 h12
  cases h13 : within r 44032 55203
  case true => exact look_13 r w h0 h1 h2 h3 h4 h5 h6 h7 h8 h9 h10 h11 h12 h13
  cases h14 : within r 63744 64255
  case true => exact look_14 r w h0 h1 h2 h3 h4 h5 h6 h7 h8 h9 h10 h11 h12 h13 h14
  cases h15 : within r 65072 65135
  case true => exact look_15 r w h0 h1 h2 h3 h4 h5 h6 h7 h8 h9 h10 h11 h12 h13 h14 h15
  cases h16 : within r 65280 65376
  case true => exact look_16 r w h0 h1 h2 h3 h4 h5 h6 h7 h8 h9 h10 h11 h12 h13 h14 h15 h16
  cases h17 : within r 65504 65510
  case true => exact look_17 r w h0 h1 h2 h3 h4 h5 h6 h7 h8 h9 h10 h11 h12 h13 h14 h15 h16 h17
  cases h18 : within r 127744 128591
  case true => exact look_18 r w h0 h1 h2 h3 h4 h5 h6 h7 h8 h9 h10 h11 h12 h13 h14 h15 h16 h17 h18
  cases h19 : within r 129280 129535
  case true => exact look_19 r w h0 h1 h2 h3 h4 h5 h6 h7 h8 h9 h10 h11 h12 h13 h14 h15 h16 h17 h18 h19
  cases h20 : within r 131072 262141
  case true => exact look_20 r w h0 h1 h2 h3 h4 h5 h6 h7 h8 h9 h10 h11 h12 h13 h14 h15 h16 h17 h18 h19 h20
  exact look_21 r w h0 h1 h2 h3 h4 h5 h6 h7 h8 h9 h10 h11 h12 h13 h14 h15 h16 h17 h18 h19 h20
end Wid
end Go.Proofs.Ythkfcfmnccfbnaa
