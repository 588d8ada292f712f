/- Joined texts: Wid, WidRef, RowBase. -/
import Derived.Test.YtjcfbeiljdohcaaGreatDoorJB4
namespace Go.Proofs.YtjcfbeiljdohcaaGreatDoor
set_option maxRecDepth 100000
section
open Go.RowKit
namespace Wid
theorem within_yes {r lo hi : Int} (h : lo ≤ r) (k : r ≤ hi) : within r lo hi = true := by unfold within; rw [decide_eq_true h, decide_eq_true k]; rfl
theorem within_low {r lo hi : Int} (h : ¬ lo ≤ r) : within r lo hi = false := by unfold within; rw [decide_eq_false h]; rfl
theorem within_high {r lo hi : Int} (h : ¬ r ≤ hi) : within r lo hi = false := by unfold within; rw [decide_eq_false h]; cases decide (lo ≤ r) <;> rfl
theorem in_any (r lo hi : Int) (w : World) : Calls Tryz.prog 117 #[.int .i64 r, .int .i64 lo, .int .i64 hi] w fun e w' => e = .returned (.bool (within r lo hi)) ∧ w = w' := by
  by_cases h : lo ≤ r
  · by_cases k : r ≤ hi
    · have H := Lib.hid (within_yes h k)
      go_enter Tryz.func117, Tryz.ntmps117
      go_wp2_with fail
      go_ret
      exact ⟨ret_bool H.out.symm, rfl⟩
    · have H := Lib.hid (within_high (lo := lo) k)
      have hd : decide (r ≤ hi) = false := decide_eq_false k
      go_enter Tryz.func117, Tryz.ntmps117
      go_wp2_with fail
      go_ret
      exact ⟨ret_bool H.out.symm, rfl⟩
  · have H := Lib.hid (within_low (hi := hi) h)
    have hd : decide (lo ≤ r) = false := decide_eq_false h
    go_enter Tryz.func117, Tryz.ntmps117
    go_wp2_with fail
    go_ret
    exact ⟨ret_bool H.out.symm, rfl⟩
def kindOf (r : Int) : Value := bif isNone r then .iface 187 (.agg #[]) else bif isMark r then .iface 189 (.agg #[]) else bif isWide r then .iface 191 (.int .i64 2) else .iface 191 (.int .i64 1)
theorem ret_val {a b : Value} (h : a = b) : Ending.returned a = .returned b := by rw [h]
set_option maxRecDepth 100000 in
theorem look_0 (r : Int) (w : World) (h0 : decide (r < 32) = true) : Calls Tryz.prog 116 #[.int .i64 r] w fun e w' => e = .returned (kindOf r) ∧ w = w' := by
  have HK : Hid (.iface 187 (.agg #[]) = kindOf r) := Lib.hid (by unfold kindOf isNone; (rw [h0]) <;> rfl)
  go_enter Tryz.func116, Tryz.ntmps116
  go_wp2_with (go_at_call 117; refine (in_any _ _ _ _).mono ?_; rintro e w' ⟨rfl, rfl⟩)
  go_ret
  exact ⟨ret_val HK.out, rfl⟩
set_option maxRecDepth 100000 in
theorem look_1 (r : Int) (w : World) (h0 : decide (r < 32) = false) (h1 : within r 127 159 = true) : Calls Tryz.prog 116 #[.int .i64 r] w fun e w' => e = .returned (kindOf r) ∧ w = w' := by
  have HK : Hid (.iface 187 (.agg #[]) = kindOf r) := Lib.hid (by unfold kindOf isNone; (rw [h0, h1]) <;> rfl)
  go_enter Tryz.func116, Tryz.ntmps116
  go_wp2_with (go_at_call 117; refine (in_any _ _ _ _).mono ?_; rintro e w' ⟨rfl, rfl⟩)
  go_ret
  exact ⟨ret_val HK.out, rfl⟩
set_option maxRecDepth 100000 in
theorem look_2 (r : Int) (w : World) (h0 : decide (r < 32) = false) (h1 : within r 127 159 = false) (h2 : within r 55296 57343 = true) : Calls Tryz.prog 116 #[.int .i64 r] w fun e w' => e = .returned (kindOf r) ∧ w = w' := by
  have HK : Hid (.iface 187 (.agg #[]) = kindOf r) := Lib.hid (by unfold kindOf isNone; (rw [h0, h1, h2]) <;> rfl)
  go_enter Tryz.func116, Tryz.ntmps116
  go_wp2_with (go_at_call 117; refine (in_any _ _ _ _).mono ?_; rintro e w' ⟨rfl, rfl⟩)
  go_ret
  exact ⟨ret_val HK.out, rfl⟩
set_option maxRecDepth 100000 in
theorem look_3 (r : Int) (w : World) (h0 : decide (r < 32) = false) (h1 : within r 127 159 = false) (h2 : within r 55296 57343 = false) (h3 : decide (1114111 < r) = true) : Calls Tryz.prog 116 #[.int .i64 r] w fun e w' => e = .returned (kindOf r) ∧ w = w' := by
  have HK : Hid (.iface 187 (.agg #[]) = kindOf r) := Lib.hid (by unfold kindOf isNone; (rw [h0, h1, h2, h3]) <;> rfl)
  go_enter Tryz.func116, Tryz.ntmps116
  go_wp2_with (go_at_call 117; refine (in_any _ _ _ _).mono ?_; rintro e w' ⟨rfl, rfl⟩)
  go_ret
  exact ⟨ret_val HK.out, rfl⟩
set_option maxRecDepth 100000 in
theorem look_4 (r : Int) (w : World) (h0 : decide (r < 32) = false) (h1 : within r 127 159 = false) (h2 : within r 55296 57343 = false) (h3 : decide (1114111 < r) = false) (h4 : within r 768 879 = true) : Calls Tryz.prog 116 #[.int .i64 r] w fun e w' => e = .returned (kindOf r) ∧ w = w' := by
  have HK : Hid (.iface 189 (.agg #[]) = kindOf r) := Lib.hid (by unfold kindOf isNone isMark; (rw [h0, h1, h2, h3, h4]) <;> rfl)
  go_enter Tryz.func116, Tryz.ntmps116
  go_wp2_with (go_at_call 117; refine (in_any _ _ _ _).mono ?_; rintro e w' ⟨rfl, rfl⟩)
  go_ret
  exact ⟨ret_val HK.out, rfl⟩
set_option maxRecDepth 100000 in
theorem look_5 (r : Int) (w : World) (h0 : decide (r < 32) = false) (h1 : within r 127 159 = false) (h2 : within r 55296 57343 = false) (h3 : decide (1114111 < r) = false) (h4 : within r 768 879 = false) (h5 : within r 6832 6911 = true) : Calls Tryz.prog 116 #[.int .i64 r] w fun e w' => e = .returned (kindOf r) ∧ w = w' := by
  have HK : Hid (.iface 189 (.agg #[]) = kindOf r) := Lib.hid (by unfold kindOf isNone isMark; (rw [h0, h1, h2, h3, h4, h5]) <;> rfl)
  go_enter Tryz.func116, Tryz.ntmps116
  go_wp2_with (go_at_call 117; refine (in_any _ _ _ _).mono ?_; rintro e w' ⟨rfl, rfl⟩)
  go_ret
  exact ⟨ret_val HK.out, rfl⟩
set_option maxRecDepth 100000 in
theorem look_6 (r : Int) (w : World) (h0 : decide (r < 32) = false) (h1 : within r 127 159 = false) (h2 : within r 55296 57343 = false) (h3 : decide (1114111 < r) = false) (h4 : within r 768 879 = false) (h5 : within r 6832 6911 = false) (h6 : within r 8203 8207 = true) : Calls Tryz.prog 116 #[.int .i64 r] w fun e w' => e = .returned (kindOf r) ∧ w = w' := by
  have HK : Hid (.iface 189 (.agg #[]) = kindOf r) := Lib.hid (by unfold kindOf isNone isMark; (rw [h0, h1, h2, h3, h4, h5, h6]) <;> rfl)
  go_enter Tryz.func116, Tryz.ntmps116
  go_wp2_with (go_at_call 117; refine (in_any _ _ _ _).mono ?_; rintro e w' ⟨rfl, rfl⟩)
  go_ret
  exact ⟨ret_val HK.out, rfl⟩
set_option maxRecDepth 100000 in
theorem look_7 (r : Int) (w : World) (h0 : decide (r < 32) = false) (h1 : within r 127 159 = false) (h2 : within r 55296 57343 = false) (h3 : decide (1114111 < r) = false) (h4 : within r 768 879 = false) (h5 : within r 6832 6911 = false) (h6 : within r 8203 8207 = false) (h7 : within r 8400 8447 = true) : Calls Tryz.prog 116 #[.int .i64 r] w fun e w' => e = .returned (kindOf r) ∧ w = w' := by
  have HK : Hid (.iface 189 (.agg #[]) = kindOf r) := Lib.hid (by unfold kindOf isNone isMark; (rw [h0, h1, h2, h3, h4, h5, h6, h7]) <;> rfl)
  go_enter Tryz.func116, Tryz.ntmps116
  go_wp2_with (go_at_call 117; refine (in_any _ _ _ _).mono ?_; rintro e w' ⟨rfl, rfl⟩)
  go_ret
  exact ⟨ret_val HK.out, rfl⟩
set_option maxRecDepth 100000 in
theorem look_8 (r : Int) (w : World) (h0 : decide (r < 32) = false) (h1 : within r 127 159 = false) (h2 : within r 55296 57343 = false) (h3 : decide (1114111 < r) = false) (h4 : within r 768 879 = false) (h5 : within r 6832 6911 = false) (h6 : within r 8203 8207 = false) (h7 : within r 8400 8447 = false) (h8 : within r 65024 65039 = true) : Calls Tryz.prog 116 #[.int .i64 r] w fun e w' => e = .returned (kindOf r) ∧ w = w' := by
  have HK : Hid (.iface 189 (.agg #[]) = kindOf r) := Lib.hid (by unfold kindOf isNone isMark; (rw [h0, h1, h2, h3, h4, h5, h6, h7, h8]) <;> rfl)
  go_enter Tryz.func116, Tryz.ntmps116
  go_wp2_with (go_at_call 117; refine (in_any _ _ _ _).mono ?_; rintro e w' ⟨rfl, rfl⟩)
  go_ret
  exact ⟨ret_val HK.out, rfl⟩
set_option maxRecDepth 100000 in
theorem look_9 (r : Int) (w : World) (h0 : decide (r < 32) = false) (h1 : within r 127 159 = false) (h2 : within r 55296 57343 = false) (h3 : decide (1114111 < r) = false) (h4 : within r 768 879 = false) (h5 : within r 6832 6911 = false) (h6 : within r 8203 8207 = false) (h7 : within r 8400 8447 = false) (h8 : within r 65024 65039 = false) (h9 : within r 65056 65071 = true) : Calls Tryz.prog 116 #[.int .i64 r] w fun e w' => e = .returned (kindOf r) ∧ w = w' := by
  have HK : Hid (.iface 189 (.agg #[]) = kindOf r) := Lib.hid (by unfold kindOf isNone isMark; (rw [h0, h1, h2, h3, h4, h5, h6, h7, h8, h9]) <;> rfl)
  go_enter Tryz.func116, Tryz.ntmps116
  go_wp2_with (go_at_call 117; refine (in_any _ _ _ _).mono ?_; rintro e w' ⟨rfl, rfl⟩)
  go_ret
  exact ⟨ret_val HK.out, rfl⟩
set_option maxRecDepth 100000 in
theorem look_10 (r : Int) (w : World) (h0 : decide (r < 32) = false) (h1 : within r 127 159 = false) (h2 : within r 55296 57343 = false) (h3 : decide (1114111 < r) = false) (h4 : within r 768 879 = false) (h5 : within r 6832 6911 = false) (h6 : within r 8203 8207 = false) (h7 : within r 8400 8447 = false) (h8 : within r 65024 65039 = false) (h9 : within r 65056 65071 = false) (h10 : within r 4352 4447 = true) : Calls Tryz.prog 116 #[.int .i64 r] w fun e w' => e = .returned (kindOf r) ∧ w = w' := by
  have HK : Hid (.iface 191 (.int .i64 2) = kindOf r) := Lib.hid (by unfold kindOf isNone isMark isWide; (rw [h0, h1, h2, h3, h4, h5, h6, h7, h8, h9, h10]) <;> rfl)
  go_enter Tryz.func116, Tryz.ntmps116
  go_wp2_with (go_at_call 117; refine (in_any _ _ _ _).mono ?_; rintro e w' ⟨rfl, rfl⟩)
  go_ret
  exact ⟨ret_val HK.out, rfl⟩
set_option maxRecDepth 100000 in
theorem look_11 (r : Int) (w : World) (h0 : decide (r < 32) = false) (h1 : within r 127 159 = false) (h2 : within r 55296 57343 = false) (h3 : decide (1114111 < r) = false) (h4 : within r 768 879 = false) (h5 : within r 6832 6911 = false) (h6 : within r 8203 8207 = false) (h7 : within r 8400 8447 = false) (h8 : within r 65024 65039 = false) (h9 : within r 65056 65071 = false) (h10 : within r 4352 4447 = false) (h11 : within r 11904 12350 = true) : Calls Tryz.prog 116 #[.int .i64 r] w fun e w' => e = .returned (kindOf r) ∧ w = w' := by
  have HK : Hid (.iface 191 (.int .i64 2) = kindOf r) := Lib.hid (by unfold kindOf isNone isMark isWide; (rw [h0, h1, h2, h3, h4, h5, h6, h7, h8, h9, h10, h11]) <;> rfl)
  go_enter Tryz.func116, Tryz.ntmps116
  go_wp2_with (go_at_call 117; refine (in_any _ _ _ _).mono ?_; rintro e w' ⟨rfl, rfl⟩)
  go_ret
  exact ⟨ret_val HK.out, rfl⟩
set_option maxRecDepth 100000 in
theorem look_12 (r : Int) (w : World) (h0 : decide (r < 32) = false) (h1 : within r 127 159 = false) (h2 : within r 55296 57343 = false) (h3 : decide (1114111 < r) = false) (h4 : within r 768 879 = false) (h5 : within r 6832 6911 = false) (h6 : within r 8203 8207 = false) (h7 : within r 8400 8447 = false) (h8 : within r 65024 65039 = false) (h9 : within r 65056 65071 = false) (h10 : within r 4352 4447 = false) (h11 : within r 11904 12350 = false) (h12 : within r 12353 42191 = true) : Calls Tryz.prog 116 #[.int .i64 r] w fun e w' => e = .returned (kindOf r) ∧ w = w' := by
  have HK : Hid (.iface 191 (.int .i64 2) = kindOf r) := Lib.hid (by unfold kindOf isNone isMark isWide; (rw [h0, h1, h2, h3, h4, h5, h6, h7, h8, h9, h10, h11, h12]) <;> rfl)
  go_enter Tryz.func116, Tryz.ntmps116
  go_wp2_with (go_at_call 117; refine (in_any _ _ _ _).mono ?_; rintro e w' ⟨rfl, rfl⟩)
  go_ret
  exact ⟨ret_val HK.out, rfl⟩
set_option maxRecDepth 100000 in
theorem look_13 (r : Int) (w : World) (h0 : decide (r < 32) = false) (h1 : within r 127 159 = false) (h2 : within r 55296 57343 = false) (h3 : decide (1114111 < r) = false) (h4 : within r 768 879 = false) (h5 : within r 6832 6911 = false) (h6 : within r 8203 8207 = false) (h7 : within r 8400 8447 = false) (h8 : within r 65024 65039 = false) (h9 : within r 65056 65071 = false) (h10 : within r 4352 4447 = false) (h11 : within r 11904 12350 = false) (h12 : within r 12353 42191 = false) (h13 : within r 44032 55203 = true) : Calls Tryz.prog 116 #[.int .i64 r] w fun e w' => e = .returned (kindOf r) ∧ w = w' := by
  have HK : Hid (.iface 191 (.int .i64 2) = kindOf r) := Lib.hid (by unfold kindOf isNone isMark isWide; (rw [h0, h1, h2, h3, h4, h5, h6, h7, h8, h9, h10, h11, h12, h13]) <;> rfl)
  go_enter Tryz.func116, Tryz.ntmps116
  go_wp2_with (go_at_call 117; refine (in_any _ _ _ _).mono ?_; rintro e w' ⟨rfl, rfl⟩)
  go_ret
  exact ⟨ret_val HK.out, rfl⟩
set_option maxRecDepth 100000 in
theorem look_14 (r : Int) (w : World) (h0 : decide (r < 32) = false) (h1 : within r 127 159 = false) (h2 : within r 55296 57343 = false) (h3 : decide (1114111 < r) = false) (h4 : within r 768 879 = false) (h5 : within r 6832 6911 = false) (h6 : within r 8203 8207 = false) (h7 : within r 8400 8447 = false) (h8 : within r 65024 65039 = false) (h9 : within r 65056 65071 = false) (h10 : within r 4352 4447 = false) (h11 : within r 11904 12350 = false) (h12 : within r 12353 42191 = false) (h13 : within r 44032 55203 = false) (h14 : within r 63744 64255 = true) : Calls Tryz.prog 116 #[.int .i64 r] w fun e w' => e = .returned (kindOf r) ∧ w = w' := by
  have HK : Hid (.iface 191 (.int .i64 2) = kindOf r) := Lib.hid (by unfold kindOf isNone isMark isWide; (rw [h0, h1, h2, h3, h4, h5, h6, h7, h8, h9, h10, h11, h12, h13, h14]) <;> rfl)
  go_enter Tryz.func116, Tryz.ntmps116
  go_wp2_with (go_at_call 117; refine (in_any _ _ _ _).mono ?_; rintro e w' ⟨rfl, rfl⟩)
  go_ret
  exact ⟨ret_val HK.out, rfl⟩
set_option maxRecDepth 100000 in
theorem look_15 (r : Int) (w : World) (h0 : decide (r < 32) = false) (h1 : within r 127 159 = false) (h2 : within r 55296 57343 = false) (h3 : decide (1114111 < r) = false) (h4 : within r 768 879 = false) (h5 : within r 6832 6911 = false) (h6 : within r 8203 8207 = false) (h7 : within r 8400 8447 = false) (h8 : within r 65024 65039 = false) (h9 : within r 65056 65071 = false) (h10 : within r 4352 4447 = false) (h11 : within r 11904 12350 = false) (h12 : within r 12353 42191 = false) (h13 : within r 44032 55203 = false) (h14 : within r 63744 64255 = false) (h15 : within r 65072 65135 = true) : Calls Tryz.prog 116 #[.int .i64 r] w fun e w' => e = .returned (kindOf r) ∧ w = w' := by
  have HK : Hid (.iface 191 (.int .i64 2) = kindOf r) := Lib.hid (by unfold kindOf isNone isMark isWide; (rw [h0, h1, h2, h3, h4, h5, h6, h7, h8, h9, h10, h11, h12, h13, h14, h15]) <;> rfl)
  go_enter Tryz.func116, Tryz.ntmps116
  go_wp2_with (go_at_call 117; refine (in_any _ _ _ _).mono ?_; rintro e w' ⟨rfl, rfl⟩)
  go_ret
  exact ⟨ret_val HK.out, rfl⟩
set_option maxRecDepth 100000 in
theorem look_16 (r : Int) (w : World) (h0 : decide (r < 32) = false) (h1 : within r 127 159 = false) (h2 : within r 55296 57343 = false) (h3 : decide (1114111 < r) = false) (h4 : within r 768 879 = false) (h5 : within r 6832 6911 = false) (h6 : within r 8203 8207 = false) (h7 : within r 8400 8447 = false) (h8 : within r 65024 65039 = false) (h9 : within r 65056 65071 = false) (h10 : within r 4352 4447 = false) (h11 : within r 11904 12350 = false) (h12 : within r 12353 42191 = false) (h13 : within r 44032 55203 = false) (h14 : within r 63744 64255 = false) (h15 : within r 65072 65135 = false) (h16 : within r 65280 65376 = true) : Calls Tryz.prog 116 #[.int .i64 r] w fun e w' => e = .returned (kindOf r) ∧ w = w' := by
  have HK : Hid (.iface 191 (.int .i64 2) = kindOf r) := Lib.hid (by unfold kindOf isNone isMark isWide; (rw [h0, h1, h2, h3, h4, h5, h6, h7, h8, h9, h10, h11, h12, h13, h14, h15, h16]) <;> rfl)
  go_enter Tryz.func116, Tryz.ntmps116
  go_wp2_with (go_at_call 117; refine (in_any _ _ _ _).mono ?_; rintro e w' ⟨rfl, rfl⟩)
  go_ret
  exact ⟨ret_val HK.out, rfl⟩
set_option maxRecDepth 100000 in
theorem look_17 (r : Int) (w : World) (h0 : decide (r < 32) = false) (h1 : within r 127 159 = false) (h2 : within r 55296 57343 = false) (h3 : decide (1114111 < r) = false) (h4 : within r 768 879 = false) (h5 : within r 6832 6911 = false) (h6 : within r 8203 8207 = false) (h7 : within r 8400 8447 = false) (h8 : within r 65024 65039 = false) (h9 : within r 65056 65071 = false) (h10 : within r 4352 4447 = false) (h11 : within r 11904 12350 = false) (h12 : within r 12353 42191 = false) (h13 : within r 44032 55203 = false) (h14 : within r 63744 64255 = false) (h15 : within r 65072 65135 = false) (h16 : within r 65280 65376 = false) (h17 : within r 65504 65510 = true) : Calls Tryz.prog 116 #[.int .i64 r] w fun e w' => e = .returned (kindOf r) ∧ w = w' := by
  have HK : Hid (.iface 191 (.int .i64 2) = kindOf r) := Lib.hid (by unfold kindOf isNone isMark isWide; (rw [h0, h1, h2, h3, h4, h5, h6, h7, h8, h9, h10, h11, h12, h13, h14, h15, h16, h17]) <;> rfl)
  go_enter Tryz.func116, Tryz.ntmps116
  go_wp2_with (go_at_call 117; refine (in_any _ _ _ _).mono ?_; rintro e w' ⟨rfl, rfl⟩)
  go_ret
  exact ⟨ret_val HK.out, rfl⟩
set_option maxRecDepth 100000 in
theorem look_18 (r : Int) (w : World) (h0 : decide (r < 32) = false) (h1 : within r 127 159 = false) (h2 : within r 55296 57343 = false) (h3 : decide (1114111 < r) = false) (h4 : within r 768 879 = false) (h5 : within r 6832 6911 = false) (h6 : within r 8203 8207 = false) (h7 : within r 8400 8447 = false) (h8 : within r 65024 65039 = false) (h9 : within r 65056 65071 = false) (h10 : within r 4352 4447 = false) (h11 : within r 11904 12350 = false) (h12 : within r 12353 42191 = false) (h13 : within r 44032 55203 = false) (h14 : within r 63744 64255 = false) (h15 : within r 65072 65135 = false) (h16 : within r 65280 65376 = false) (h17 : within r 65504 65510 = false) (h18 : within r 127744 128591 = true) : Calls Tryz.prog 116 #[.int .i64 r] w fun e w' => e = .returned (kindOf r) ∧ w = w' := by
  have HK : Hid (.iface 191 (.int .i64 2) = kindOf r) := Lib.hid (by unfold kindOf isNone isMark isWide; (rw [h0, h1, h2, h3, h4, h5, h6, h7, h8, h9, h10, h11, h12, h13, h14, h15, h16, h17, h18]) <;> rfl)
  go_enter Tryz.func116, Tryz.ntmps116
  go_wp2_with (go_at_call 117; refine (in_any _ _ _ _).mono ?_; rintro e w' ⟨rfl, rfl⟩)
  go_ret
  exact ⟨ret_val HK.out, rfl⟩
set_option maxRecDepth 100000 in
theorem look_19 (r : Int) (w : World) (h0 : decide (r < 32) = false) (h1 : within r 127 159 = false) (h2 : within r 55296 57343 = false) (h3 : decide (1114111 < r) = false) (h4 : within r 768 879 = false) (h5 : within r 6832 6911 = false) (h6 : within r 8203 8207 = false) (h7 : within r 8400 8447 = false) (h8 : within r 65024 65039 = false) (h9 : within r 65056 65071 = false) (h10 : within r 4352 4447 = false) (h11 : within r 11904 12350 = false) (h12 : within r 12353 42191 = false) (h13 : within r 44032 55203 = false) (h14 : within r 63744 64255 = false) (h15 : within r 65072 65135 = false) (h16 : within r 65280 65376 = false) (h17 : within r 65504 65510 = false) (h18 : within r 127744 128591 = false) (h19 : within r 129280 129535 = true) : Calls Tryz.prog 116 #[.int .i64 r] w fun e w' => e = .returned (kindOf r) ∧ w = w' := by
  have HK : Hid (.iface 191 (.int .i64 2) = kindOf r) := Lib.hid (by unfold kindOf isNone isMark isWide; (rw [h0, h1, h2, h3, h4, h5, h6, h7, h8, h9, h10, h11, h12, h13, h14, h15, h16, h17, h18, h19]) <;> rfl)
  go_enter Tryz.func116, Tryz.ntmps116
  go_wp2_with (go_at_call 117; refine (in_any _ _ _ _).mono ?_; rintro e w' ⟨rfl, rfl⟩)
  go_ret
  exact ⟨ret_val HK.out, rfl⟩
set_option maxRecDepth 100000 in
theorem look_20 (r : Int) (w : World) (h0 : decide (r < 32) = false) (h1 : within r 127 159 = false) (h2 : within r 55296 57343 = false) (h3 : decide (1114111 < r) = false) (h4 : within r 768 879 = false) (h5 : within r 6832 6911 = false) (h6 : within r 8203 8207 = false) (h7 : within r 8400 8447 = false) (h8 : within r 65024 65039 = false) (h9 : within r 65056 65071 = false) (h10 : within r 4352 4447 = false) (h11 : within r 11904 12350 = false) (h12 : within r 12353 42191 = false) (h13 : within r 44032 55203 = false) (h14 : within r 63744 64255 = false) (h15 : within r 65072 65135 = false) (h16 : within r 65280 65376 = false) (h17 : within r 65504 65510 = false) (h18 : within r 127744 128591 = false) (h19 : within r 129280 129535 = false) (h20 : within r 131072 262141 = true) : Calls Tryz.prog 116 #[.int .i64 r] w fun e w' => e = .returned (kindOf r) ∧ w = w' := by
  have HK : Hid (.iface 191 (.int .i64 2) = kindOf r) := Lib.hid (by unfold kindOf isNone isMark isWide; (rw [h0, h1, h2, h3, h4, h5, h6, h7, h8, h9, h10, h11, h12, h13, h14, h15, h16, h17, h18, h19, h20]) <;> rfl)
  go_enter Tryz.func116, Tryz.ntmps116
  go_wp2_with (go_at_call 117; refine (in_any _ _ _ _).mono ?_; rintro e w' ⟨rfl, rfl⟩)
  go_ret
  exact ⟨ret_val HK.out, rfl⟩
set_option maxRecDepth 100000 in
theorem look_21 (r : Int) (w : World) (h0 : decide (r < 32) = false) (h1 : within r 127 159 = false) (h2 : within r 55296 57343 = false) (h3 : decide (1114111 < r) = false) (h4 : within r 768 879 = false) (h5 : within r 6832 6911 = false) (h6 : within r 8203 8207 = false) (h7 : within r 8400 8447 = false) (h8 : within r 65024 65039 = false) (h9 : within r 65056 65071 = false) (h10 : within r 4352 4447 = false) (h11 : within r 11904 12350 = false) (h12 : within r 12353 42191 = false) (h13 : within r 44032 55203 = false) (h14 : within r 63744 64255 = false) (h15 : within r 65072 65135 = false) (h16 : within r 65280 65376 = false) (h17 : within r 65504 65510 = false) (h18 : within r 127744 128591 = false) (h19 : within r 129280 129535 = false) (h20 : within r 131072 262141 = false) : Calls Tryz.prog 116 #[.int .i64 r] w fun e w' => e = .returned (kindOf r) ∧ w = w' := by
  have HK : Hid (.iface 191 (.int .i64 1) = kindOf r) := Lib.hid (by unfold kindOf isNone isMark isWide; (rw [h0, h1, h2, h3, h4, h5, h6, h7, h8, h9, h10, h11, h12, h13, h14, h15, h16, h17, h18, h19, h20]) <;> rfl)
  go_enter Tryz.func116, Tryz.ntmps116
  go_wp2_with (go_at_call 117; refine (in_any _ _ _ _).mono ?_; rintro e w' ⟨rfl, rfl⟩)
  go_ret
  exact ⟨ret_val HK.out, rfl⟩
theorem look_any (r : Int) (w : World) : Calls Tryz.prog 116 #[.int .i64 r] w fun e w' => e = .returned (kindOf r) ∧ w = w' := by
  cases h0 : decide (r < 32)
  case true => exact look_0 r w h0
  cases h1 : within r 127 159
  case true => exact look_1 r w h0 h1
  cases h2 : within r 55296 57343
  case true => exact look_2 r w h0 h1 h2
  cases h3 : decide (1114111 < r)
  case true => exact look_3 r w h0 h1 h2 h3
  cases h4 : within r 768 879
  case true => exact look_4 r w h0 h1 h2 h3 h4
  cases h5 : within r 6832 6911
  case true => exact look_5 r w h0 h1 h2 h3 h4 h5
  cases h6 : within r 8203 8207
  case true => exact look_6 r w h0 h1 h2 h3 h4 h5 h6
  cases h7 : within r 8400 8447
  case true => exact look_7 r w h0 h1 h2 h3 h4 h5 h6 h7
  cases h8 : within r 65024 65039
  case true => exact look_8 r w h0 h1 h2 h3 h4 h5 h6 h7 h8
  cases h9 : within r 65056 65071
  case true => exact look_9 r w h0 h1 h2 h3 h4 h5 h6 h7 h8 h9
  cases h10 : within r 4352 4447
  case true => exact look_10 r w h0 h1 h2 h3 h4 h5 h6 h7 h8 h9 h10
  cases h11 : within r 11904 12350
  case true => exact look_11 r w h0 h1 h2 h3 h4 h5 h6 h7 h8 h9 h10 h11
  cases h12 : within r 12353 42191
  case true => exact look_12 r w h0 h1 h2 h3 h4 h5 h6 h7 h8 h9 h10 h11 h12
  cases h13 : within r 44032 55203
  case true => exact look_13 r w h0 h1 h2 h3 h4 h5 h6 h7 h8 h9 h10 h11 h12 h13
  cases h14 : within r 63744 64255
  case true => exact look_14 r w h0 h1 h2 h3 h4 h5 h6 h7 h8 h9 h10 h11 h12 h13 h14
  cases h15 : within r 65072 65135
  case true => exact look_15 r w h0 h1 h2 h3 h4 h5 h6 h7 h8 h9 h10 h11 h12 h13 h14 h15
  cases h16 : within r 65280 65376
  case true => exact look_16 r w h0 h1 h2 h3 h4 h5 h6 h7 h8 h9 h10 h11 h12 h13 h14 h15 h16
  cases h17 : within r 65504 65510
  case true => exact look_17 r w h0 h1 h2 h3 h4 h5 h6 h7 h8 h9 h10 h11 h12 h13 h14 h15 h16 h17
  cases h18 : within r 127744 128591
  case true => exact look_18 r w h0 h1 h2 h3 h4 h5 h6 h7 h8 h9 h10 h11 h12 h13 h14 h15 h16 h17 h18
  cases h19 : within r 129280 129535
  case true => exact look_19 r w h0 h1 h2 h3 h4 h5 h6 h7 h8 h9 h10 h11 h12 h13 h14 h15 h16 h17 h18 h19
  cases h20 : within r 131072 262141
  case true => exact look_20 r w h0 h1 h2 h3 h4 h5 h6 h7 h8 h9 h10 h11 h12 h13 h14 h15 h16 h17 h18 h19 h20
  exact look_21 r w h0 h1 h2 h3 h4 h5 h6 h7 h8 h9 h10 h11 h12 h13 h14 h15 h16 h17 h18 h19 h20
end Wid
end
section
open Go.RowKit
namespace Wid
theorem pairs_step (r a b : Int) (l : List Int) : pairs r (a :: b :: l) = (within r a b || pairs r l) := rfl
theorem drop_two {l : List Int} {k : Nat} (h : k + 1 < l.length) : l.drop k = l.getD k 0 :: l.getD (k + 1) 0 :: l.drop (k + 2) := by
  rw [List.drop_eq_getElem_cons (by omega), List.drop_eq_getElem_cons (by omega)]
  simp [List.getD, show k < l.length by omega, h]
theorem pairs_short {r : Int} {l : List Int} (h : l.length ≤ 1) : pairs r l = false := by
  match l, h with
  | [], _ => rfl
  | [_], _ => rfl
set_option maxHeartbeats 800000 in
theorem between_any {x : Value} (r : Int) (n : Nat) (l : List Int) (w : World) (hx : Src w x n (ints l)) (hn : n ≤ 1000) :
    Calls Tryz.prog 96 #[.int .i64 r, x] w fun e w' => e = .returned (.bool (pairs r l)) ∧ w = w' := by
  have ln : l.length = n := by have := hx.len; rwa [ints_length] at this
  obtain ⟨A, c, rfl, ha⟩ := hx.form
  have ha' := Lib.hid ha
  have ln' := Lib.hid ln
  clear ha hx ln
  go_enter Tryz.func96, Tryz.ntmps96
  go_wp2_with fail
  go_loop [5] (fun i => ∃ k : Nat, k ≤ n + 1 ∧ i = .int .i64 k ∧ Hid (pairs r (l.drop k) = pairs r l)) (fun i => n + 2 - (intOf i).toNat)
  case atStart => exact ⟨0, by omega, rfl, Lib.hid rfl⟩
  case round =>
    obtain ⟨k, hk, rfl, HP⟩ := hrel
    by_cases hlt : k + 1 < n
    · obtain ⟨ad, rfl, h1⟩ := ha'.out k (by omega)
      obtain ⟨ad', e, h2⟩ := ha'.out (k + 1) hlt
      injection e with e; subst e
      rw [ints_get (by rw [ln'.out]; omega)] at h1
      rw [ints_get (by rw [ln'.out]; omega), show ad.add (k + 1) = { block := ad.block, off := ad.off + (k + 1) } from by simp [Addr.add]] at h2
      have HD : Hid (pairs r l = (within r (l.getD k 0) (l.getD (k + 1) 0) || pairs r (l.drop (k + 2)))) := Lib.hid (by
        rw [← HP.out, drop_two (by rw [ln'.out]; exact hlt), pairs_step])
      generalize l.getD k 0 = a at h1 HD
      generalize l.getD (k + 1) 0 = b at h2 HD
      have hc : decide ((k : Int) + 1 < (n : Int)) = true := decide_eq_true (by omega)
      by_cases g1 : a ≤ r
      · by_cases g2 : r ≤ b
        · have HR : Hid (pairs r l = true) := Lib.hid (by
            rw [HD.out]; unfold within; rw [decide_eq_true g1, decide_eq_true g2]; rfl)
          go_wp2_with fail
          go_ret
          exact ⟨ret_bool HR.out.symm, rfl⟩
        · have HR : Hid (pairs r (l.drop (k + 2)) = pairs r l) := Lib.hid (by
            rw [HD.out]; unfold within; rw [decide_eq_false g2, Bool.and_false, Bool.false_or])
          have hg2 : decide (r ≤ b) = false := decide_eq_false g2
          clear g2
          go_wp2_with fail
          go_round
          case rel => exact ⟨k + 2, by omega, by go_num, HR⟩
          case measure => simp [intOf]; omega
      · have HR : Hid (pairs r (l.drop (k + 2)) = pairs r l) := Lib.hid (by
          rw [HD.out]; unfold within; rw [decide_eq_false g1, Bool.false_and, Bool.false_or])
        have hg1 : decide (a ≤ r) = false := decide_eq_false g1
        clear g1
        go_wp2_with fail
        go_round
        case rel => exact ⟨k + 2, by omega, by go_num, HR⟩
        case measure => simp [intOf]; omega
    · have HR : Hid (pairs r l = false) := Lib.hid (by rw [← HP.out, pairs_short (by rw [List.length_drop, ln'.out]; omega)])
      have hc : decide ((k : Int) + 1 < (n : Int)) = false := decide_eq_false (by omega)
      clear hlt
      go_wp2_with fail
      go_ret
      exact ⟨ret_bool HR.out.symm, rfl⟩
def noneL : List Int := [127, 159, 55296, 57343]
def markL : List Int := [768, 879, 6832, 6911, 8203, 8207, 8400, 8447, 65024, 65039, 65056, 65071]
def wideL : List Int := [4352, 4447, 11904, 12350, 12353, 42191, 44032, 55203, 63744, 64255, 65072, 65135, 65280, 65376, 65504, 65510, 127744, 128591, 129280, 129535, 131072, 262141]
theorem none_pairs (r : Int) (h : decide (r < 32) = false) (k : decide (1114111 < r) = false) : isNone r = pairs r noneL := by
  unfold isNone; rw [h, k]; simp [noneL, pairs]
theorem mark_pairs (r : Int) : isMark r = pairs r markL := by simp [isMark, markL, pairs]
theorem wide_pairs (r : Int) : isWide r = pairs r wideL := by simp [isWide, wideL, pairs]
theorem between_at {x : Value} (r : Int) (n : Nat) (l : List Int) (b : Bool) (hb : pairs r l = b) (w : World) (hx : Src w x n (ints l)) (hn : n ≤ 1000) :
    Calls Tryz.prog 96 #[.int .i64 r, x] w fun e w' => e = .returned (.bool b) ∧ w = w' := by subst hb; exact between_any r n l w hx hn
set_option maxRecDepth 100000 in
set_option maxHeartbeats 1600000 in
theorem width_any (r : Int) (w : World) : Calls Tryz.prog 79 #[.int .i64 r] w fun e w' => e = .returned (.int .i64 (wid r)) ∧ Below w.heap.size w w' := by
  by_cases h1 : r < 32
  · have HW : Hid (wid r = -1) := Lib.hid (by unfold wid isNone; rw [decide_eq_true h1]; rfl)
    go_enter Tryz.func79, Tryz.ntmps79
    go_wp2_with fail
    go_ret
    exact ⟨ret_int HW.out.symm, Below.refl _ _⟩
  · by_cases h2 : 1114111 < r
    · have HW : Hid (wid r = -1) := Lib.hid (by unfold wid isNone; rw [decide_eq_true h2, Bool.or_true, Bool.or_true, Bool.or_true]; rfl)
      have hd1 : decide (r < 32) = false := decide_eq_false h1
      go_enter Tryz.func79, Tryz.ntmps79
      go_wp2_with fail
      go_ret
      exact ⟨ret_int HW.out.symm, Below.refl _ _⟩
    · have hd1 : decide (r < 32) = false := decide_eq_false h1
      have hd2 : decide (1114111 < r) = false := decide_eq_false h2
      have hN := none_pairs r hd1 hd2
      have hM := mark_pairs r
      have hI := wide_pairs r
      have hw : wid r = bif pairs r noneL then -1 else bif pairs r markL then 0 else bif pairs r wideL then 2 else 1 := by
        unfold wid; rw [hN, hM, hI]
      clear hN hM hI h1 h2
      cases p1 : pairs r noneL
      case true =>
        have HW : Hid (wid r = -1) := Lib.hid (by rw [hw, p1]; rfl)
        have P1 := Lib.hid p1
        clear hw p1
        go_enter Tryz.func79, Tryz.ntmps79
        go_wp2_with fail
        refine (between_at r 4 noneL _ P1.out _ (Src.made_at _ _ _ _ _ _ _ rfl rfl rfl) (by decide)).mono ?_; rintro e w' ⟨rfl, rfl⟩
        go_wp2_with fail
        go_ret
        exact ⟨ret_int HW.out.symm, (Below.refl _ _).alloc (Nat.le_refl _) _⟩
      case false =>
        have P1 := Lib.hid p1
        cases p2 : pairs r markL
        case true =>
          have HW : Hid (wid r = 0) := Lib.hid (by rw [hw, p1, p2]; rfl)
          have P2 := Lib.hid p2
          clear hw p1 p2
          go_enter Tryz.func79, Tryz.ntmps79
          go_wp2_with fail
          refine (between_at r 4 noneL _ P1.out _ (Src.made_at _ _ _ _ _ _ _ rfl rfl rfl) (by decide)).mono ?_; rintro e w' ⟨rfl, rfl⟩
          go_wp2_with fail
          refine (between_at r 12 markL _ P2.out _ (Src.made_at _ _ _ _ _ _ _ (by simp) rfl rfl) (by decide)).mono ?_; rintro e w' ⟨rfl, rfl⟩
          go_wp2_with fail
          go_ret
          exact ⟨ret_int HW.out.symm, ((Below.refl _ _).alloc (Nat.le_refl _) _).alloc (by simp) _⟩
        case false =>
          have P2 := Lib.hid p2
          cases p3 : pairs r wideL
          all_goals
            have HW : Hid (wid r = _) := Lib.hid (by rw [hw, p1, p2, p3])
            have P3 := Lib.hid p3
            clear hw p1 p2 p3
            go_enter Tryz.func79, Tryz.ntmps79
            go_wp2_with fail
            refine (between_at r 4 noneL _ P1.out _ (Src.made_at _ _ _ _ _ _ _ rfl rfl rfl) (by decide)).mono ?_; rintro e w' ⟨rfl, rfl⟩
            go_wp2_with fail
            refine (between_at r 12 markL _ P2.out _ (Src.made_at _ _ _ _ _ _ _ (by simp) rfl rfl) (by decide)).mono ?_; rintro e w' ⟨rfl, rfl⟩
            go_wp2_with fail
            refine (between_at r 22 wideL _ P3.out _ (Src.made_at _ _ _ _ _ _ _ (by simp) rfl rfl) (by decide)).mono ?_; rintro e w' ⟨rfl, rfl⟩
            go_wp2_with fail
            go_ret
            exact ⟨ret_int HW.out.symm, (((Below.refl _ _).alloc (Nat.le_refl _) _).alloc (by simp) _).alloc (by simp; omega) _⟩
end Wid
end
section
open Go.RowKit
namespace Row
open Wid
theorem between_any (n lo hi : Int) (w : World) : Calls Tryz.prog 55 #[.int .i64 n, .int .i64 lo, .int .i64 hi] w fun e w' => e = .returned (.bool (rng n lo hi)) ∧ w = w' := by
  by_cases h : lo ≤ n
  · by_cases k : n ≤ hi
    · have H : Hid (rng n lo hi = true) := Lib.hid (by unfold rng; rw [decide_eq_true h, decide_eq_true k]; rfl)
      go_enter Tryz.func55, Tryz.ntmps55
      go_wp2_with fail
      go_ret
      exact ⟨ret_bool H.out.symm, rfl⟩
    · have H : Hid (rng n lo hi = false) := Lib.hid (by unfold rng; rw [decide_eq_false k, Bool.and_false])
      have hd : decide (n ≤ hi) = false := decide_eq_false k
      go_enter Tryz.func55, Tryz.ntmps55
      go_wp2_with fail
      go_ret
      exact ⟨ret_bool H.out.symm, rfl⟩
  · have H : Hid (rng n lo hi = false) := Lib.hid (by unfold rng; rw [decide_eq_false h, Bool.false_and])
    have hd : decide (lo ≤ n) = false := decide_eq_false h
    go_enter Tryz.func55, Tryz.ntmps55
    go_wp2_with fail
    go_ret
    exact ⟨ret_bool H.out.symm, rfl⟩
theorem colour_ok (n : Int) (w : World) : Calls Tryz.prog 95 #[.int .i64 n] w fun e w' => e = .returned (.bool (colourOk n)) ∧ w = w' := by
  go_enter Tryz.func95, Tryz.ntmps95
  go_wp2_with fail
  refine (between_any _ _ _ _).mono ?_; rintro e w' ⟨rfl, rfl⟩
  go_wp2_with fail
  go_ret
  exact ⟨rfl, rfl⟩
theorem num_any (n hi : Int) (w : World) : Calls Tryz.prog 30 #[.int .i64 n, .int .i64 hi] w fun e w' => e = .returned (.bool (rng n 0 hi)) ∧ w = w' := by
  by_cases h : 0 ≤ n
  · by_cases k : n ≤ hi
    · have H : Hid (rng n 0 hi = true) := Lib.hid (by unfold rng; rw [decide_eq_true h, decide_eq_true k]; rfl)
      go_enter Tryz.func30, Tryz.ntmps30
      go_wp2_with fail
      go_ret
      exact ⟨ret_bool H.out.symm, rfl⟩
    · have H : Hid (rng n 0 hi = false) := Lib.hid (by unfold rng; rw [decide_eq_false k, Bool.and_false])
      have hd : decide (n ≤ hi) = false := decide_eq_false k
      go_enter Tryz.func30, Tryz.ntmps30
      go_wp2_with fail
      go_ret
      exact ⟨ret_bool H.out.symm, rfl⟩
  · have H : Hid (rng n 0 hi = false) := Lib.hid (by unfold rng; rw [decide_eq_false h, Bool.false_and])
    have hd : decide (0 ≤ n) = false := decide_eq_false h
    go_enter Tryz.func30, Tryz.ntmps30
    go_wp2_with fail
    go_ret
    exact ⟨ret_bool H.out.symm, rfl⟩
set_option maxHeartbeats 800000 in
theorem attr_any (a : Look) (w : World) : Calls Tryz.prog 78 #[.agg #[.int .i64 a.fg, .int .i64 a.bg, .int .i64 a.flags]] w fun e w' => e = .returned (.bool (attrOk a)) ∧ Below w.heap.size w w' := by
  have hb : Below w.heap.size w (w.alloc (.cells #[.int .i64 a.fg, .int .i64 a.bg, .int .i64 a.flags] 76)) := (Below.refl _ _).alloc (Nat.le_refl _) _
  have HB := Lib.hid hb
  clear hb
  cases h1 : colourOk a.fg with
  | false =>
    have HE : Hid (attrOk a = false) := Lib.hid (by unfold attrOk; rw [h1]; rfl)
    have H1 := Lib.hid h1
    clear h1
    go_enter Tryz.func78, Tryz.ntmps78
    go_wp2_with fail
    refine (colour_ok _ _).mono ?_; rw [H1.out]; rintro e w' ⟨rfl, rfl⟩
    go_wp2_with fail
    go_ret
    exact ⟨ret_bool HE.out.symm, HB.out⟩
  | true =>
    have H1 := Lib.hid h1
    cases h2 : colourOk a.bg with
    | false =>
      have HE : Hid (attrOk a = false) := Lib.hid (by unfold attrOk; rw [h1, h2]; rfl)
      have H2 := Lib.hid h2
      clear h1 h2
      go_enter Tryz.func78, Tryz.ntmps78
      go_wp2_with fail
      refine (colour_ok a.fg _).mono ?_; rw [H1.out]; rintro e w' ⟨rfl, rfl⟩
      go_wp2_with fail
      refine (colour_ok a.bg _).mono ?_; rw [H2.out]; rintro e w' ⟨rfl, rfl⟩
      go_wp2_with fail
      go_ret
      exact ⟨ret_bool HE.out.symm, HB.out⟩
    | true =>
      have HE : Hid (attrOk a = rng a.flags 0 255) := Lib.hid (by unfold attrOk; rw [h1, h2]; rfl)
      have H2 := Lib.hid h2
      clear h1 h2
      go_enter Tryz.func78, Tryz.ntmps78
      go_wp2_with fail
      refine (colour_ok a.fg _).mono ?_; rw [H1.out]; rintro e w' ⟨rfl, rfl⟩
      go_wp2_with fail
      refine (colour_ok a.bg _).mono ?_; rw [H2.out]; rintro e w' ⟨rfl, rfl⟩
      go_wp2_with fail
      refine (num_any _ 255 _).mono ?_; rintro e w' ⟨rfl, rfl⟩
      go_wp2_with fail
      go_ret
      exact ⟨ret_bool HE.out.symm, HB.out⟩
theorem sgrIn_any (n lo hi : Int) (w : World) : Calls Tryz.prog 111 #[.int .i64 n, .int .i64 lo, .int .i64 hi] w fun e w' => e = .returned (.bool (rng n lo hi)) ∧ w = w' := by
  by_cases h : lo ≤ n
  · by_cases k : n ≤ hi
    · have H : Hid (rng n lo hi = true) := Lib.hid (by unfold rng; rw [decide_eq_true h, decide_eq_true k]; rfl)
      go_enter Tryz.func111, Tryz.ntmps111
      go_wp2_with fail
      go_ret
      exact ⟨ret_bool H.out.symm, rfl⟩
    · have H : Hid (rng n lo hi = false) := Lib.hid (by unfold rng; rw [decide_eq_false k, Bool.and_false])
      have hd : decide (n ≤ hi) = false := decide_eq_false k
      go_enter Tryz.func111, Tryz.ntmps111
      go_wp2_with fail
      go_ret
      exact ⟨ret_bool H.out.symm, rfl⟩
  · have H : Hid (rng n lo hi = false) := Lib.hid (by unfold rng; rw [decide_eq_false h, Bool.false_and])
    have hd : decide (lo ≤ n) = false := decide_eq_false h
    go_enter Tryz.func111, Tryz.ntmps111
    go_wp2_with fail
    go_ret
    exact ⟨ret_bool H.out.symm, rfl⟩
set_option maxHeartbeats 800000 in
theorem check_any (a : Look) (b : Bool) (hb : attrOk a = b) (w : World) : Calls Tryz.prog 106 #[.agg #[.int .i64 a.fg, .int .i64 a.bg, .int .i64 a.flags]] w fun e w' => e = .returned (.int .i64 (bif b then 0 else 1)) ∧ Below w.heap.size w w' := by
  have HB : Hid (Below w.heap.size w (w.alloc (.cells #[.int .i64 a.fg, .int .i64 a.bg, .int .i64 a.flags] 76))) := Lib.hid ((Below.refl _ _).alloc (Nat.le_refl _) _)
  cases h1 : colourOk a.fg with
  | false =>
    have e : b = false := by rw [← hb]; unfold attrOk; rw [h1]; rfl
    have H1 : Hid (rng a.fg (-1) 16777471 = false) := Lib.hid h1
    subst e
    clear hb h1
    go_enter Tryz.func106, Tryz.ntmps106
    go_wp2_with fail
    refine (sgrIn_any _ _ _ _).mono ?_; rw [H1.out]; rintro e w' ⟨rfl, rfl⟩
    go_wp2_with fail
    go_ret
    exact ⟨rfl, HB.out⟩
  | true =>
    have H1 : Hid (rng a.fg (-1) 16777471 = true) := Lib.hid h1
    cases h2 : colourOk a.bg with
    | false =>
      have e : b = false := by rw [← hb]; unfold attrOk; rw [h1, h2]; rfl
      have H2 : Hid (rng a.bg (-1) 16777471 = false) := Lib.hid h2
      subst e
      clear hb h1 h2
      go_enter Tryz.func106, Tryz.ntmps106
      go_wp2_with fail
      refine (sgrIn_any a.fg _ _ _).mono ?_; rw [H1.out]; rintro e w' ⟨rfl, rfl⟩
      go_wp2_with fail
      refine (sgrIn_any a.bg _ _ _).mono ?_; rw [H2.out]; rintro e w' ⟨rfl, rfl⟩
      go_wp2_with fail
      go_ret
      exact ⟨rfl, HB.out⟩
    | true =>
      have H2 : Hid (rng a.bg (-1) 16777471 = true) := Lib.hid h2
      have H3 : Hid (rng a.flags 0 255 = b) := Lib.hid (by rw [← hb]; unfold attrOk; rw [h1, h2]; rfl)
      clear hb h1 h2
      cases b
      all_goals
        go_enter Tryz.func106, Tryz.ntmps106
        go_wp2_with fail
        refine (sgrIn_any a.fg _ _ _).mono ?_; rw [H1.out]; rintro e w' ⟨rfl, rfl⟩
        go_wp2_with fail
        refine (sgrIn_any a.bg _ _ _).mono ?_; rw [H2.out]; rintro e w' ⟨rfl, rfl⟩
        go_wp2_with fail
        refine (sgrIn_any a.flags _ _ _).mono ?_; rw [H3.out]; rintro e w' ⟨rfl, rfl⟩
        go_wp2_with fail
        go_ret
        exact ⟨rfl, HB.out⟩
theorem rowIn_any (n lo hi : Int) (w : World) : Calls Tryz.prog 104 #[.int .i64 n, .int .i64 lo, .int .i64 hi] w fun e w' => e = .returned (.bool (rng n lo hi)) ∧ w = w' := by
  by_cases h : lo ≤ n
  · by_cases k : n ≤ hi
    · have H : Hid (rng n lo hi = true) := Lib.hid (by unfold rng; rw [decide_eq_true h, decide_eq_true k]; rfl)
      go_enter Tryz.func104, Tryz.ntmps104
      go_wp2_with fail
      go_ret
      exact ⟨ret_bool H.out.symm, rfl⟩
    · have H : Hid (rng n lo hi = false) := Lib.hid (by unfold rng; rw [decide_eq_false k, Bool.and_false])
      have hd : decide (n ≤ hi) = false := decide_eq_false k
      go_enter Tryz.func104, Tryz.ntmps104
      go_wp2_with fail
      go_ret
      exact ⟨ret_bool H.out.symm, rfl⟩
  · have H : Hid (rng n lo hi = false) := Lib.hid (by unfold rng; rw [decide_eq_false h, Bool.false_and])
    have hd : decide (lo ≤ n) = false := decide_eq_false h
    go_enter Tryz.func104, Tryz.ntmps104
    go_wp2_with fail
    go_ret
    exact ⟨ret_bool H.out.symm, rfl⟩
@[go_sem] theorem w_is_none_none (v : Value) (w : World) : (Instr.typeAssert (.iface 187 v) 185 187 true).run Tryz.prog w = .ok (.tuple #[v, .bool true]) w := by kernel_rfl
@[go_sem] theorem w_is_none_mark (v : Value) (w : World) : (Instr.typeAssert (.iface 189 v) 185 187 true).run Tryz.prog w = .ok (.tuple #[.agg #[], .bool false]) w := by kernel_rfl
@[go_sem] theorem w_is_none_cells (v : Value) (w : World) : (Instr.typeAssert (.iface 191 v) 185 187 true).run Tryz.prog w = .ok (.tuple #[.agg #[], .bool false]) w := by kernel_rfl
@[go_sem] theorem w_is_mark_mark (v : Value) (w : World) : (Instr.typeAssert (.iface 189 v) 185 189 true).run Tryz.prog w = .ok (.tuple #[v, .bool true]) w := by kernel_rfl
@[go_sem] theorem w_is_mark_cells (v : Value) (w : World) : (Instr.typeAssert (.iface 191 v) 185 189 true).run Tryz.prog w = .ok (.tuple #[.agg #[], .bool false]) w := by kernel_rfl
@[go_sem] theorem w_must_cells (v : Value) (w : World) : (Instr.typeAssert (.iface 191 v) 185 191 false).run Tryz.prog w = .ok v w := by kernel_rfl
@[go_sem] theorem w_is_cells_cells (v : Value) (w : World) : (Instr.typeAssert (.iface 191 v) 185 191 true).run Tryz.prog w = .ok (.tuple #[v, .bool true]) w := by kernel_rfl
@[go_sem] theorem w_is_cells_none (v : Value) (w : World) : (Instr.typeAssert (.iface 187 v) 185 191 true).run Tryz.prog w = .ok (.tuple #[.int .i64 0, .bool false]) w := by kernel_rfl
@[go_sem] theorem w_is_cells_mark (v : Value) (w : World) : (Instr.typeAssert (.iface 189 v) 185 191 true).run Tryz.prog w = .ok (.tuple #[.int .i64 0, .bool false]) w := by kernel_rfl
theorem kind_cases (r : Int) : (kindOf r = .iface 187 (.agg #[]) ∧ wid r = -1 ∧ adds r = 0) ∨ (kindOf r = .iface 189 (.agg #[]) ∧ wid r = 0 ∧ adds r = 0) ∨
    (kindOf r = .iface 191 (.int .i64 2) ∧ wid r = 2 ∧ adds r = 2) ∨ (kindOf r = .iface 191 (.int .i64 1) ∧ wid r = 1 ∧ adds r = 1) := by
  unfold kindOf wid adds
  cases isNone r <;> cases isMark r <;> cases isWide r <;> simp
theorem look_at (r : Int) (k : Value) (hk : kindOf r = k) (w : World) : Calls Tryz.prog 116 #[.int .i64 r] w fun e w' => e = .returned k ∧ w = w' := by
  subst hk; exact look_any r w
set_option maxHeartbeats 400000 in
theorem of_any (r : Int) (w : World) : Calls Tryz.prog 115 #[.int .i64 r] w fun e w' => e = .returned (.int .i64 (wid r)) ∧ Below w.heap.size w w' := by
  rcases kind_cases r with ⟨hk, hw, _⟩ | ⟨hk, hw, _⟩ | ⟨hk, hw, _⟩ | ⟨hk, hw, _⟩
  all_goals
    have HK := Lib.hid hk
    have HW := Lib.hid hw
    clear hk hw
    go_enter Tryz.func115, Tryz.ntmps115
    go_wp2_with fail
    refine (look_at r _ HK.out _).mono ?_; rintro e w' ⟨rfl, rfl⟩
    go_wp2_with fail
    go_ret
    exact ⟨ret_int HW.out.symm, by repeat (first | exact Below.refl _ _ | refine Below.alloc ?_ (Nat.le_refl _) _ | refine Below.alloc ?_ (by simp) _ | refine Below.setCell ?_ (by simp) _)⟩
end Row
end
end Go.Proofs.YtjcfbeiljdohcaaGreatDoor
