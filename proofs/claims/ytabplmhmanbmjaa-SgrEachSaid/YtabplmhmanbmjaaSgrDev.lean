/- The developers' orders: what they are in memory, and what an attribute becomes by one. -/
import Derived.Test.YtabplmhmanbmjaaSgrRefL
import Derived.Deep.QuietTactic
namespace Go.Proofs.Ytabplmhmanbmjaa
set_option maxRecDepth 100000
open Go.RowKit
namespace Sd
open Sgr

def ordVal : Ord → Value
  | .void => .iface 63 (.agg #[])
  | .plain => .iface 65 (.agg #[])
  | .on f => .iface 67 (.int .i64 f)
  | .off f => .iface 69 (.int .i64 f)
  | .front c => .iface 71 (.int .i64 c)
  | .back c => .iface 73 (.int .i64 c)
@[go_sem] theorem is_void_void (v : Value) (w : World) : (Instr.typeAssert (.iface 63 v) 52 63 true).run Try.prog w = .ok (.tuple #[v, .bool true]) w := by kernel_rfl
@[go_sem] theorem is_void_plain (v : Value) (w : World) : (Instr.typeAssert (.iface 63 v) 52 65 true).run Try.prog w = .ok (.tuple #[.agg #[], .bool false]) w := by kernel_rfl
@[go_sem] theorem is_void_on (v : Value) (w : World) : (Instr.typeAssert (.iface 63 v) 52 67 true).run Try.prog w = .ok (.tuple #[.int .i64 0, .bool false]) w := by kernel_rfl
@[go_sem] theorem is_void_off (v : Value) (w : World) : (Instr.typeAssert (.iface 63 v) 52 69 true).run Try.prog w = .ok (.tuple #[.int .i64 0, .bool false]) w := by kernel_rfl
@[go_sem] theorem is_void_front (v : Value) (w : World) : (Instr.typeAssert (.iface 63 v) 52 71 true).run Try.prog w = .ok (.tuple #[.int .i64 0, .bool false]) w := by kernel_rfl
@[go_sem] theorem is_plain_void (v : Value) (w : World) : (Instr.typeAssert (.iface 65 v) 52 63 true).run Try.prog w = .ok (.tuple #[.agg #[], .bool false]) w := by kernel_rfl
@[go_sem] theorem is_plain_plain (v : Value) (w : World) : (Instr.typeAssert (.iface 65 v) 52 65 true).run Try.prog w = .ok (.tuple #[v, .bool true]) w := by kernel_rfl
@[go_sem] theorem is_plain_on (v : Value) (w : World) : (Instr.typeAssert (.iface 65 v) 52 67 true).run Try.prog w = .ok (.tuple #[.int .i64 0, .bool false]) w := by kernel_rfl
@[go_sem] theorem is_plain_off (v : Value) (w : World) : (Instr.typeAssert (.iface 65 v) 52 69 true).run Try.prog w = .ok (.tuple #[.int .i64 0, .bool false]) w := by kernel_rfl
@[go_sem] theorem is_plain_front (v : Value) (w : World) : (Instr.typeAssert (.iface 65 v) 52 71 true).run Try.prog w = .ok (.tuple #[.int .i64 0, .bool false]) w := by kernel_rfl
@[go_sem] theorem is_on_void (v : Value) (w : World) : (Instr.typeAssert (.iface 67 v) 52 63 true).run Try.prog w = .ok (.tuple #[.agg #[], .bool false]) w := by kernel_rfl
@[go_sem] theorem is_on_plain (v : Value) (w : World) : (Instr.typeAssert (.iface 67 v) 52 65 true).run Try.prog w = .ok (.tuple #[.agg #[], .bool false]) w := by kernel_rfl
@[go_sem] theorem is_on_on (v : Value) (w : World) : (Instr.typeAssert (.iface 67 v) 52 67 true).run Try.prog w = .ok (.tuple #[v, .bool true]) w := by kernel_rfl
@[go_sem] theorem is_on_off (v : Value) (w : World) : (Instr.typeAssert (.iface 67 v) 52 69 true).run Try.prog w = .ok (.tuple #[.int .i64 0, .bool false]) w := by kernel_rfl
@[go_sem] theorem is_on_front (v : Value) (w : World) : (Instr.typeAssert (.iface 67 v) 52 71 true).run Try.prog w = .ok (.tuple #[.int .i64 0, .bool false]) w := by kernel_rfl
@[go_sem] theorem is_off_void (v : Value) (w : World) : (Instr.typeAssert (.iface 69 v) 52 63 true).run Try.prog w = .ok (.tuple #[.agg #[], .bool false]) w := by kernel_rfl
@[go_sem] theorem is_off_plain (v : Value) (w : World) : (Instr.typeAssert (.iface 69 v) 52 65 true).run Try.prog w = .ok (.tuple #[.agg #[], .bool false]) w := by kernel_rfl
@[go_sem] theorem is_off_on (v : Value) (w : World) : (Instr.typeAssert (.iface 69 v) 52 67 true).run Try.prog w = .ok (.tuple #[.int .i64 0, .bool false]) w := by kernel_rfl
@[go_sem] theorem is_off_off (v : Value) (w : World) : (Instr.typeAssert (.iface 69 v) 52 69 true).run Try.prog w = .ok (.tuple #[v, .bool true]) w := by kernel_rfl
@[go_sem] theorem is_off_front (v : Value) (w : World) : (Instr.typeAssert (.iface 69 v) 52 71 true).run Try.prog w = .ok (.tuple #[.int .i64 0, .bool false]) w := by kernel_rfl
@[go_sem] theorem is_front_void (v : Value) (w : World) : (Instr.typeAssert (.iface 71 v) 52 63 true).run Try.prog w = .ok (.tuple #[.agg #[], .bool false]) w := by kernel_rfl
@[go_sem] theorem is_front_plain (v : Value) (w : World) : (Instr.typeAssert (.iface 71 v) 52 65 true).run Try.prog w = .ok (.tuple #[.agg #[], .bool false]) w := by kernel_rfl
@[go_sem] theorem is_front_on (v : Value) (w : World) : (Instr.typeAssert (.iface 71 v) 52 67 true).run Try.prog w = .ok (.tuple #[.int .i64 0, .bool false]) w := by kernel_rfl
@[go_sem] theorem is_front_off (v : Value) (w : World) : (Instr.typeAssert (.iface 71 v) 52 69 true).run Try.prog w = .ok (.tuple #[.int .i64 0, .bool false]) w := by kernel_rfl
@[go_sem] theorem is_front_front (v : Value) (w : World) : (Instr.typeAssert (.iface 71 v) 52 71 true).run Try.prog w = .ok (.tuple #[v, .bool true]) w := by kernel_rfl
@[go_sem] theorem is_back_void (v : Value) (w : World) : (Instr.typeAssert (.iface 73 v) 52 63 true).run Try.prog w = .ok (.tuple #[.agg #[], .bool false]) w := by kernel_rfl
@[go_sem] theorem is_back_plain (v : Value) (w : World) : (Instr.typeAssert (.iface 73 v) 52 65 true).run Try.prog w = .ok (.tuple #[.agg #[], .bool false]) w := by kernel_rfl
@[go_sem] theorem is_back_on (v : Value) (w : World) : (Instr.typeAssert (.iface 73 v) 52 67 true).run Try.prog w = .ok (.tuple #[.int .i64 0, .bool false]) w := by kernel_rfl
@[go_sem] theorem is_back_off (v : Value) (w : World) : (Instr.typeAssert (.iface 73 v) 52 69 true).run Try.prog w = .ok (.tuple #[.int .i64 0, .bool false]) w := by kernel_rfl
@[go_sem] theorem is_back_front (v : Value) (w : World) : (Instr.typeAssert (.iface 73 v) 52 71 true).run Try.prog w = .ok (.tuple #[.int .i64 0, .bool false]) w := by kernel_rfl
@[go_sem] theorem must_back (v : Value) (w : World) : (Instr.typeAssert (.iface 73 v) 52 73 false).run Try.prog w = .ok v w := by kernel_rfl

theorem in_any (n lo hi : Int) (w : World) : Calls Try.prog 24 #[.int .i64 n, .int .i64 lo, .int .i64 hi] w fun e w' => e = .returned (.bool (rng n lo hi)) ∧ w = w' := by
  by_cases h : lo ≤ n
  · by_cases k : n ≤ hi
    · have H : Hid (rng n lo hi = true) := Lib.hid (by unfold rng; rw [decide_eq_true h, decide_eq_true k]; rfl)
      go_enter Try.func24, Try.ntmps24
      go_wp2_with fail
      go_ret
      exact ⟨ret_bool H.out.symm, rfl⟩
    · have H : Hid (rng n lo hi = false) := Lib.hid (by unfold rng; rw [decide_eq_false k, Bool.and_false])
      have hd : decide (n ≤ hi) = false := decide_eq_false k
      go_enter Try.func24, Try.ntmps24
      go_wp2_with fail
      go_ret
      exact ⟨ret_bool H.out.symm, rfl⟩
  · have H : Hid (rng n lo hi = false) := Lib.hid (by unfold rng; rw [decide_eq_false h, Bool.false_and])
    have hd : decide (lo ≤ n) = false := decide_eq_false h
    go_enter Try.func24, Try.ntmps24
    go_wp2_with fail
    go_ret
    exact ⟨ret_bool H.out.symm, rfl⟩

set_option maxHeartbeats 800000 in
/-- Check: no error of what may be, the other of what may not. -/
theorem check_any (a : Look) (b : Bool) (hb : attrOk a = b) (w : World) : Calls Try.prog 11 #[.agg #[.int .i64 a.fg, .int .i64 a.bg, .int .i64 a.flags]] w fun e w' => e = .returned (.int .i64 (bif b then 0 else 1)) ∧ Below w.heap.size w w' := by
  have HB : Hid (Below w.heap.size w (w.alloc (.cells #[.int .i64 a.fg, .int .i64 a.bg, .int .i64 a.flags] 29))) := Lib.hid ((Below.refl _ _).alloc (Nat.le_refl _) _)
  cases h1 : colourOk a.fg with
  | false =>
    have e : b = false := by rw [← hb]; unfold attrOk; rw [h1]; rfl
    have H1 : Hid (rng a.fg (-1) 16777471 = false) := Lib.hid h1
    subst e
    clear hb h1
    go_enter Try.func11, Try.ntmps11
    go_wp2_with fail
    refine (in_any _ _ _ _).mono ?_; rw [H1.out]; rintro e w' ⟨rfl, rfl⟩
    go_wp2_with fail
    go_ret
    exact ⟨rfl, HB.out⟩
  | true =>
    have H1 : Hid (rng a.fg (-1) 16777471 = true) := Lib.hid h1
    cases h2 : colourOk a.bg with
    | false =>
      have e : b = false := by rw [← hb]; unfold attrOk; rw [h1, h2]; rfl
      have H2 : Hid (rng a.bg (-1) 16777471 = false) := Lib.hid h2
      subst e
      clear hb h1 h2
      go_enter Try.func11, Try.ntmps11
      go_wp2_with fail
      refine (in_any a.fg _ _ _).mono ?_; rw [H1.out]; rintro e w' ⟨rfl, rfl⟩
      go_wp2_with fail
      refine (in_any a.bg _ _ _).mono ?_; rw [H2.out]; rintro e w' ⟨rfl, rfl⟩
      go_wp2_with fail
      go_ret
      exact ⟨rfl, HB.out⟩
    | true =>
      have H2 : Hid (rng a.bg (-1) 16777471 = true) := Lib.hid h2
      have H3 : Hid (rng a.flags 0 255 = b) := Lib.hid (by rw [← hb]; unfold attrOk; rw [h1, h2]; rfl)
      clear hb h1 h2
      cases b
      all_goals
        go_enter Try.func11, Try.ntmps11
        go_wp2_with fail
        refine (in_any a.fg _ _ _).mono ?_; rw [H1.out]; rintro e w' ⟨rfl, rfl⟩
        go_wp2_with fail
        refine (in_any a.bg _ _ _).mono ?_; rw [H2.out]; rintro e w' ⟨rfl, rfl⟩
        go_wp2_with fail
        refine (in_any a.flags _ _ _).mono ?_; rw [H3.out]; rintro e w' ⟨rfl, rfl⟩
        go_wp2_with fail
        go_ret
        exact ⟨rfl, HB.out⟩

set_option maxHeartbeats 800000 in
theorem numbersFit_any (l : List Int) (x : Value) (w : World) (hx : Sl w x l) (hl : l.length ≤ 1000000000) :
    Calls Try.prog 25 #[x] w fun e w' => e = .returned (.bool (decide (l.length ≤ 32) && paramsOk l)) ∧ w = w' := by
  obtain ⟨A, c, rfl, hc⟩ := hx.room
  have HG := Lib.hid hx.get
  clear hx hc
  go_enter Try.func25, Try.ntmps25
  go_wp2_with fail
  go_loopw [7] (fun i wr => ∃ k : Nat, k ≤ l.length ∧ i = .int .i64 k ∧ wr = w ∧ Hid (paramsOk l = (l.drop k).all fun n => rng n (-1) 9999)) (fun i _ => l.length - (intOf i).toNat)
  case atStart => exact ⟨0, by omega, rfl, rfl, Lib.hid (by rw [List.drop_zero]; rfl)⟩
  case round =>
    obtain ⟨k, hk, rfl, rfl, HB⟩ := hrel
    by_cases hlt : k < l.length
    · obtain ⟨ad, rfl, hE⟩ := HG.out k hlt
      have HS := Lib.hid (all_getD (f := fun n => rng n (-1) 9999) hlt)
      generalize l.getD k 0 = y at hE HS
      cases hy : rng y (-1) 9999 with
      | false =>
        have HY := Lib.hid hy
        have HF : Hid ((decide (l.length ≤ 32) && paramsOk l) = false) := Lib.hid (by rw [HB.out, HS.out, hy, Bool.false_and, Bool.and_false])
        clear hy
        go_wp2_with fail
        refine (in_any y (-1) 9999 _).mono ?_; rw [HY.out]; rintro e w' ⟨rfl, rfl⟩
        go_wp2_with fail
        go_ret
        exact ⟨ret_bool HF.out.symm, rfl⟩
      | true =>
        have HY := Lib.hid hy
        have HT : Hid (paramsOk l = (l.drop (k + 1)).all fun n => rng n (-1) 9999) := Lib.hid (by rw [HB.out, HS.out, hy, Bool.true_and])
        clear hy
        go_wp2_with fail
        refine (in_any y (-1) 9999 _).mono ?_; rw [HY.out]; rintro e w' ⟨rfl, rfl⟩
        go_wp2_with fail
        go_roundw
        case rel => exact ⟨k + 1, by omega, by go_num, by trivial, HT⟩
        case measure => simp [intOf]; omega
    · have hk6 : decide (k < l.length) = false := decide_eq_false hlt
      have hP : paramsOk l = true := by rw [HB.out, List.drop_eq_nil_of_le (by omega)]; rfl
      have HF : Hid ((decide (l.length ≤ 32) && paramsOk l) = decide ((l.length : Int) ≤ 32)) := Lib.hid (by rw [hP, Bool.and_true, decide_eq_decide]; omega)
      clear hlt hP
      go_wp2_with fail
      go_ret
      exact ⟨ret_bool (by rw [HF.out]), rfl⟩

theorem within_any (c most : Int) (w : World) : Calls Try.prog 35 #[.int .i64 c, .int .i64 most] w fun e w' => e = .returned (ordVal (if 255 < most then .void else .front c)) ∧ w = w' := by
  by_cases h : 255 < most
  · rw [if_pos h]
    go_enter Try.func35, Try.ntmps35
    go_wp2_with fail
    go_ret
    exact ⟨rfl, rfl⟩
  · rw [if_neg h]
    have hd : decide (255 < most) = false := decide_eq_false h
    go_enter Try.func35, Try.ntmps35
    go_wp2_with fail
    go_ret
    exact ⟨rfl, rfl⟩
theorem behind_any (o : Ord) (w : World) : Calls Try.prog 33 #[ordVal o] w fun e w' => e = .returned (ordVal (behindOf o)) ∧ w = w' := by
  cases o
  all_goals
    simp only [ordVal, behindOf]
    go_enter Try.func33, Try.ntmps33
    go_wp2_with fail
    go_ret
    exact ⟨rfl, rfl⟩
theorem short_any (n : Int) (h0 : -20 ≤ n) (h1 : n ≤ 10000) (w : World) : Calls Try.prog 37 #[.int .i64 n] w fun e w' => e = .returned (ordVal (shortOf n)) ∧ w = w' := by
  by_cases h30 : 30 ≤ n ∧ n ≤ 37
  · have HE : Hid (shortOf n = .front (n - 30)) := Lib.hid (by unfold shortOf; rw [if_pos h30])
    have R30 : Hid (rng n 30 37 = true) := Lib.hid (rng_yes h30)
    rw [HE.out]
    clear h30
    go_enter Try.func37, Try.ntmps37
    go_wp2_with fail
    refine (in_any n 30 37 _).mono ?_; rw [R30.out]; rintro e w' ⟨rfl, rfl⟩
    go_wp2_with fail
    go_ret
    exact ⟨rfl, rfl⟩
  have R30 : Hid (rng n 30 37 = false) := Lib.hid (rng_no h30)
  by_cases h39 : n = 39
  · have HE : Hid (shortOf n = .front (-1)) := Lib.hid (by unfold shortOf; rw [if_neg h30, if_pos h39])
    have b39 : (n == 39) = true := by rw [beq_iff_eq]; exact h39
    rw [HE.out]
    clear h30 h39
    go_enter Try.func37, Try.ntmps37
    go_wp2_with fail
    refine (in_any n 30 37 _).mono ?_; rw [R30.out]; rintro e w' ⟨rfl, rfl⟩
    go_wp2_with fail
    go_ret
    exact ⟨rfl, rfl⟩
  have b39 : (n == 39) = false := by rw [beq_eq_false_iff_ne]; exact h39
  by_cases h90 : 90 ≤ n ∧ n ≤ 97
  · have HE : Hid (shortOf n = .front (n - 90 + 8)) := Lib.hid (by unfold shortOf; rw [if_neg h30, if_neg h39, if_pos h90]; congr 1; omega)
    have R90 : Hid (rng n 90 97 = true) := Lib.hid (rng_yes h90)
    rw [HE.out]
    clear h30 h39 h90
    go_enter Try.func37, Try.ntmps37
    go_wp2_with fail
    refine (in_any n 30 37 _).mono ?_; rw [R30.out]; rintro e w' ⟨rfl, rfl⟩
    go_wp2_with fail
    refine (in_any n 90 97 _).mono ?_; rw [R90.out]; rintro e w' ⟨rfl, rfl⟩
    go_wp2_with fail
    go_ret
    exact ⟨rfl, rfl⟩
  have HE : Hid (shortOf n = .void) := Lib.hid (by unfold shortOf; rw [if_neg h30, if_neg h39, if_neg h90])
  have R90 : Hid (rng n 90 97 = false) := Lib.hid (rng_no h90)
  rw [HE.out]
  clear h30 h39 h90
  go_enter Try.func37, Try.ntmps37
  go_wp2_with fail
  refine (in_any n 30 37 _).mono ?_; rw [R30.out]; rintro e w' ⟨rfl, rfl⟩
  go_wp2_with fail
  refine (in_any n 90 97 _).mono ?_; rw [R90.out]; rintro e w' ⟨rfl, rfl⟩
  go_wp2_with fail
  go_ret
  exact ⟨rfl, rfl⟩
end Sd
end Go.Proofs.Ytabplmhmanbmjaa
