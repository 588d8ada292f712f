/- strconv.Itoa of a digit. -/
import Derived.Test.YtkkpdfjbgiijlaaDoorKeyRef
namespace Go.Proofs.YtkkpdfjbgiijlaaDoor
set_option maxRecDepth 100000
open Go.RowKit Tri KeyM
namespace Key

def dig (n : Nat) : ByteArray := ⟨#[UInt8.ofNat (48 + n)]⟩
theorem small_digit (n : Nat) (hn : 1 ≤ n ∧ n ≤ 8) (w : World) : Calls Tryd.prog 38 #[.int .i64 n] w fun e w' => e = .returned (.string (dig n)) ∧ w = w' := by
  have : n = 1 ∨ n = 2 ∨ n = 3 ∨ n = 4 ∨ n = 5 ∨ n = 6 ∨ n = 7 ∨ n = 8 := by omega
  rcases this with rfl | rfl | rfl | rfl | rfl | rfl | rfl | rfl
  all_goals
    go_enter Tryd.func38, Tryd.ntmps38
    go_wp2_with fail
    go_ret
    exact ⟨rfl, rfl⟩
theorem format_digit (n : Nat) (hn : 1 ≤ n ∧ n ≤ 8) (w : World) : Calls Tryd.prog 37 #[.int .i64 n, .int .i64 10] w fun e w' => e = .returned (.string (dig n)) ∧ w = w' := by
  have H := Lib.hid (small_digit n hn)
  have hd : decide ((n : Int) < 100) = true := decide_eq_true (by omega)
  have hd0 : decide (0 ≤ (n : Int)) = true := decide_eq_true (by omega)
  clear hn
  go_enter Tryd.func37, Tryd.ntmps37
  go_wp2_with fail
  refine (H.out _).mono ?_; rintro e w' ⟨rfl, rfl⟩
  go_wp2_with fail
  go_ret
  exact ⟨rfl, rfl⟩
theorem itoa_in (n : Nat) (hn : 1 ≤ n ∧ n ≤ 8) (w : World) : Calls Tryd.prog 35 #[.int .i64 n] w fun e w' => e = .returned (.string (dig n)) ∧ w = w' := by
  have H := Lib.hid (format_digit n hn)
  clear hn
  go_enter Tryd.func35, Tryd.ntmps35
  go_wp2_with fail
  refine (H.out _).mono ?_; rintro e w' ⟨rfl, rfl⟩
  go_wp2_with fail
  go_ret
  exact ⟨rfl, rfl⟩
theorem itoa_digit (n : Nat) (hn : 1 ≤ n ∧ n ≤ 8) (w : World) : Calls Tryd.prog 25 #[.int .i64 n] w fun e w' => e = .returned (.string (dig n)) ∧ w = w' := by
  have H := Lib.hid (itoa_in n hn)
  clear hn
  go_enter Tryd.func25, Tryd.ntmps25
  go_wp2_with fail
  refine (H.out _).mono ?_; rintro e w' ⟨rfl, rfl⟩
  go_wp2_with fail
  go_ret
  exact ⟨rfl, rfl⟩
end Key
end Go.Proofs.YtkkpdfjbgiijlaaDoor
