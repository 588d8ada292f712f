/- Contracts of the reference's small functions on bytes: how many bytes follow, whether a byte may follow. -/
import Derived.Test.YtjodbmfjdpbbnaaDoorBase
import Derived.Test.YtjodbmfjdpbbnaaDoorUtfPlain
namespace Go.Proofs.YtjodbmfjdpbbnaaDoor
open Go.RowKit
namespace Utf

def moreZ (b : Nat) : Int := if more b = 0 then -1 else more b

set_option maxHeartbeats 400000 in
theorem more_any (n : Nat) (w : World) (hn : n < 256) : Calls Tryd.prog 49 #[.int .u8 n] w fun e w' => e = .returned (.int .i64 (moreZ n)) ∧ w = w' := by
  go_enter Tryd.func49, Tryd.ntmps49
  go_wp2
  all_goals go_ret
  all_goals exact ⟨ret_int (by unfold moreZ more; repeat' split
                               all_goals omega), rfl⟩

set_option maxHeartbeats 400000 in
theorem follows_any (f : Nat) (i : Nat) (b : Nat) (w : World) (hb : b < 256) : Calls Tryd.prog 50 #[.int .u8 f, .int .i64 i, .int .u8 b] w fun e w' => e = .returned (.bool (follows f i b)) ∧ w = w' := by
  go_enter Tryd.func50, Tryd.ntmps50
  go_wp2
  all_goals go_ret
  all_goals refine ⟨ret_bool ?_, rfl⟩
  all_goals simp only [beq_iff_eq, beq_eq_false_iff_ne, ne_eq] at *
  all_goals rw [Bool.eq_iff_iff]
  all_goals simp only [follows_iff, decide_eq_true_eq, Bool.false_eq_true, false_iff]
  all_goals simp only [low, high]
  all_goals repeat' split
  all_goals omega
theorem follows_at {x i y : Int} (f k b : Nat) (w : World) (hx : x = f) (hi : i = k) (hy : y = b) (hb : b < 256) :
    Calls Tryd.prog 50 #[.int .u8 x, .int .i64 i, .int .u8 y] w fun e w' => e = .returned (.bool (follows f k b)) ∧ w = w' := by
  subst hx; subst hi; subst hy; exact follows_any f k b w hb
theorem more_at {x : Int} (n : Nat) (w : World) (hx : x = n) (hn : n < 256) : Calls Tryd.prog 49 #[.int .u8 x] w fun e w' => e = .returned (.int .i64 (moreZ n)) ∧ w = w' := by
  subst hx; exact more_any n w hn
end Utf
end Go.Proofs.YtjodbmfjdpbbnaaDoor
