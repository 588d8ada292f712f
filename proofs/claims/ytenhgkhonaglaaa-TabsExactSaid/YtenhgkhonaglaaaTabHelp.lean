/- Small contracts that stops stand on: numbers within bounds, how many columns may be, whether one may go from a place. -/
import Derived.Test.YtenhgkhonaglaaaTabMem
namespace Go.Proofs.Ytenhgkhonaglaaa
set_option maxRecDepth 100000
open Go.RowKit
namespace Tab

def rng (n lo hi : Int) : Bool := decide (lo ≤ n) && decide (n ≤ hi)
theorem rng_yes {n lo hi : Int} : rng n lo hi = true ↔ lo ≤ n ∧ n ≤ hi := by unfold rng; rw [Bool.and_eq_true, decide_eq_true_eq, decide_eq_true_eq]
theorem between_any (n lo hi : Int) (w : World) : Calls Try.prog 25 #[.int .i64 n, .int .i64 lo, .int .i64 hi] w fun e w' => e = .returned (.bool (rng n lo hi)) ∧ w = w' := by
  by_cases h : lo ≤ n
  · by_cases k : n ≤ hi
    · have H : Hid (rng n lo hi = true) := Lib.hid (by unfold rng; rw [decide_eq_true h, decide_eq_true k]; rfl)
      go_enter Try.func25, Try.ntmps25
      go_wp2_with fail
      go_ret
      exact ⟨ret_bool H.out.symm, rfl⟩
    · have H : Hid (rng n lo hi = false) := Lib.hid (by unfold rng; rw [decide_eq_false k, Bool.and_false])
      have hd : decide (n ≤ hi) = false := decide_eq_false k
      go_enter Try.func25, Try.ntmps25
      go_wp2_with fail
      go_ret
      exact ⟨ret_bool H.out.symm, rfl⟩
  · have H : Hid (rng n lo hi = false) := Lib.hid (by unfold rng; rw [decide_eq_false h, Bool.false_and])
    have hd : decide (lo ≤ n) = false := decide_eq_false h
    go_enter Try.func25, Try.ntmps25
    go_wp2_with fail
    go_ret
    exact ⟨ret_bool H.out.symm, rfl⟩
theorem num_any (n hi : Int) (w : World) : Calls Try.prog 19 #[.int .i64 n, .int .i64 hi] w fun e w' => e = .returned (.bool (rng n 0 hi)) ∧ w = w' := by
  by_cases h : 0 ≤ n
  · by_cases k : n ≤ hi
    · have H : Hid (rng n 0 hi = true) := Lib.hid (by unfold rng; rw [decide_eq_true h, decide_eq_true k]; rfl)
      go_enter Try.func19, Try.ntmps19
      go_wp2_with fail
      go_ret
      exact ⟨ret_bool H.out.symm, rfl⟩
    · have H : Hid (rng n 0 hi = false) := Lib.hid (by unfold rng; rw [decide_eq_false k, Bool.and_false])
      have hd : decide (n ≤ hi) = false := decide_eq_false k
      go_enter Try.func19, Try.ntmps19
      go_wp2_with fail
      go_ret
      exact ⟨ret_bool H.out.symm, rfl⟩
  · have H : Hid (rng n 0 hi = false) := Lib.hid (by unfold rng; rw [decide_eq_false h, Bool.false_and])
    have hd : decide (0 ≤ n) = false := decide_eq_false h
    go_enter Try.func19, Try.ntmps19
    go_wp2_with fail
    go_ret
    exact ⟨ret_bool H.out.symm, rfl⟩
theorem in_any (n lo hi : Int) (w : World) : Calls Try.prog 49 #[.int .i64 n, .int .i64 lo, .int .i64 hi] w fun e w' => e = .returned (.bool (rng n lo hi)) ∧ w = w' := by
  by_cases h : lo ≤ n
  · by_cases k : n ≤ hi
    · have H : Hid (rng n lo hi = true) := Lib.hid (by unfold rng; rw [decide_eq_true h, decide_eq_true k]; rfl)
      go_enter Try.func49, Try.ntmps49
      go_wp2_with fail
      go_ret
      exact ⟨ret_bool H.out.symm, rfl⟩
    · have H : Hid (rng n lo hi = false) := Lib.hid (by unfold rng; rw [decide_eq_false k, Bool.and_false])
      have hd : decide (n ≤ hi) = false := decide_eq_false k
      go_enter Try.func49, Try.ntmps49
      go_wp2_with fail
      go_ret
      exact ⟨ret_bool H.out.symm, rfl⟩
  · have H : Hid (rng n lo hi = false) := Lib.hid (by unfold rng; rw [decide_eq_false h, Bool.false_and])
    have hd : decide (lo ≤ n) = false := decide_eq_false h
    go_enter Try.func49, Try.ntmps49
    go_wp2_with fail
    go_ret
    exact ⟨ret_bool H.out.symm, rfl⟩
theorem columns_any (n : Int) (w : World) : Calls Try.prog 47 #[.int .i64 n] w fun e w' => e = .returned (.bool (rng n 1 40)) ∧ w = w' := by
  go_enter Try.func47, Try.ntmps47
  go_wp2_with fail
  refine (in_any _ _ _ _).mono ?_; rintro e w' ⟨rfl, rfl⟩
  go_wp2_with fail
  go_ret
  exact ⟨rfl, rfl⟩
/-- Whether they may be. -/
def okB (l : List Bool) : Bool := rng l.length 1 40
theorem okB_yes {l : List Bool} : okB l = true ↔ 1 ≤ l.length ∧ l.length ≤ 40 := by unfold okB; rw [rng_yes]; omega
def codeOf (b : Bool) : Int := if b then 0 else 1
theorem check_any (l : List Bool) (x : Value) (w : World) (hx : Bl w x l) : Calls Try.prog 30 #[x] w fun e w' => e = .returned (.int .i64 (codeOf (okB l))) ∧ w = w' := by
  obtain ⟨A, c, rfl⟩ := hx.shape
  unfold okB
  clear hx
  obtain ⟨b, hb⟩ : ∃ b, rng l.length 1 40 = b := ⟨_, rfl⟩
  rw [hb]
  have HB : Hid (∀ w', Calls Try.prog 47 #[.int .i64 l.length] w' fun e w'' => e = .returned (.bool b) ∧ w' = w'') := Lib.hid fun w' => by rw [← hb]; exact columns_any _ _
  clear hb
  generalize l.length = n at HB
  cases b
  all_goals
    go_enter Try.func30, Try.ntmps30
    go_wp2_with fail
    refine (HB.out _).mono ?_; rintro e w' ⟨rfl, rfl⟩
    go_wp2_with fail
    go_ret
    exact ⟨rfl, rfl⟩
/-- Whether one may go n stops from a place. -/
def goes (l : List Bool) (a n : Int) : Bool := okB l && (rng a 0 (l.length - 1) && rng n 0 9999)
theorem goes_yes {l : List Bool} {a n : Int} : goes l a n = true ↔ (1 ≤ l.length ∧ l.length ≤ 40) ∧ (0 ≤ a ∧ a < l.length) ∧ 0 ≤ n ∧ n ≤ 9999 := by
  unfold goes
  rw [Bool.and_eq_true, Bool.and_eq_true, okB_yes, rng_yes, rng_yes]; omega
theorem steps_any (l : List Bool) (a n : Int) (x : Value) (w : World) (hx : Bl w x l) (hl : l.length ≤ 1000000) : Calls Try.prog 44 #[x, .int .i64 a, .int .i64 n] w fun e w' => e = .returned (.bool (goes l a n)) ∧ w = w' := by
  obtain ⟨A, c, rfl⟩ := hx.shape
  have HC := Lib.hid (fun w' (k : Bl w' _ l) => check_any l (.slice A l.length c) w' k)
  have HX := Lib.hid hx
  have hw : IntKind.i64.wrap ((l.length : Int) - 1) = (l.length : Int) - 1 := by rw [IntKind.wrap_i64]; omega
  clear hx
  obtain ⟨p, hp⟩ : ∃ p, okB l = p := ⟨_, rfl⟩
  obtain ⟨q, hq⟩ : ∃ q, rng a 0 (l.length - 1) = q := ⟨_, rfl⟩
  obtain ⟨r, hr⟩ : ∃ r, rng n 0 9999 = r := ⟨_, rfl⟩
  have HG : Hid (goes l a n = (p && (q && r))) := Lib.hid (by unfold goes; rw [hp, hq, hr])
  have HQ : Hid (∀ w', Calls Try.prog 49 #[.int .i64 a, .int .i64 0, .int .i64 (l.length - 1)] w' fun e w'' => e = .returned (.bool q) ∧ w' = w'') := Lib.hid fun w' => by rw [← hq]; exact in_any _ _ _ _
  have HR : Hid (∀ w', Calls Try.prog 49 #[.int .i64 n, .int .i64 0, .int .i64 9999] w' fun e w'' => e = .returned (.bool r) ∧ w' = w'') := Lib.hid fun w' => by rw [← hr]; exact in_any _ _ _ _
  rw [hp] at HC
  clear hp hq hr hl
  cases p
  · go_enter Try.func44, Try.ntmps44
    go_wp2_with fail
    refine (HC.out _ HX.out).mono ?_; rintro e w' ⟨rfl, rfl⟩
    unfold codeOf
    go_wp2_with fail
    go_ret
    exact ⟨ret_bool HG.out.symm, rfl⟩
  · cases q
    · go_enter Try.func44, Try.ntmps44
      go_wp2_with fail
      refine (HC.out _ HX.out).mono ?_; rintro e w' ⟨rfl, rfl⟩
      unfold codeOf
      go_wp2_with fail
      refine (HQ.out _).mono ?_; rintro e w' ⟨rfl, rfl⟩
      go_wp2_with fail
      go_ret
      exact ⟨ret_bool HG.out.symm, rfl⟩
    · go_enter Try.func44, Try.ntmps44
      go_wp2_with fail
      refine (HC.out _ HX.out).mono ?_; rintro e w' ⟨rfl, rfl⟩
      unfold codeOf
      go_wp2_with fail
      refine (HQ.out _).mono ?_; rintro e w' ⟨rfl, rfl⟩
      go_wp2_with fail
      refine (HR.out _).mono ?_; rintro e w' ⟨rfl, rfl⟩
      go_wp2_with fail
      go_ret
      exact ⟨ret_bool HG.out.symm, rfl⟩
theorem refTabs_any (l : List Bool) (x : Value) (w : World) (hx : Bl w x l) : Calls Try.prog 15 #[x] w fun e w' => e = .returned (.bool (okB l)) ∧ w = w' := by
  obtain ⟨A, c, rfl⟩ := hx.shape
  unfold okB
  clear hx
  generalize l.length = n
  go_enter Try.func15, Try.ntmps15
  go_wp2_with fail
  refine (between_any _ _ _ _).mono ?_; rintro e w' ⟨rfl, rfl⟩
  go_wp2_with fail
  go_ret
  exact ⟨rfl, rfl⟩
theorem num_eq (n : Int) (w : World) : Calls Try.prog 22 #[.int .i64 n] w fun e w' => e = .returned (.int .i64 n) ∧ w = w' := by
  go_enter Try.func22, Try.ntmps22
  go_wp2_with fail
  go_ret
  exact ⟨rfl, rfl⟩
/-- A number brought within bounds. -/
def wi (i : Int) (n : Nat) : Nat := (i % 18446744073709551616).toNat % n
theorem wi_lt (i : Int) {n : Nat} (h : 0 < n) : wi i n < n := Nat.mod_lt _ h
theorem lawWithin_any (i : Int) (n : Nat) (h0 : 0 < n) (hn : n ≤ 1000000) (w : World) : Calls Try.prog 16 #[.int .i64 i, .int .i64 n] w fun e w' => e = .returned (.int .i64 (wi i n)) ∧ w = w' := by
  have h1 : IntKind.u64.wrap i = i % 18446744073709551616 := by rw [IntKind.wrap_u64]
  have h2 : IntKind.u64.wrap (n : Int) = (n : Int) := by rw [IntKind.wrap_u64]; omega
  have hb : 0 ≤ i % 18446744073709551616 := Int.emod_nonneg _ (by decide)
  have hlt : (wi i n) < n := Nat.mod_lt _ h0
  obtain ⟨q, hq⟩ : ∃ q : Nat, i % 18446744073709551616 = (q : Int) := ⟨(i % 18446744073709551616).toNat, by omega⟩
  have h3 : (q : Int) % (n : Int) = ((wi i n : Nat) : Int) := by unfold wi; rw [hq]; simp
  rw [hq] at h1
  have hne : ((n : Int) == 0) = false := by rw [beq_eq_false_iff_ne]; omega
  generalize wi i n = k at h3 hlt ⊢
  clear hb hq
  go_enter Try.func16, Try.ntmps16
  go_wp2_with fail
  go_ret
  exact ⟨rfl, rfl⟩
end Tab
end Go.Proofs.Ytenhgkhonaglaaa
