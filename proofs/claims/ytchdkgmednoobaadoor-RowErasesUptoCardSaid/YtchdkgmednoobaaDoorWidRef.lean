/- Contracts of the reference on widths: between, Width. -/
import Derived.Test.YtchdkgmednoobaaDoorSrc
import Derived.Test.YtchdkgmednoobaaDoorWidPlain
namespace Go.Proofs.YtchdkgmednoobaaDoor
open Go.RowKit

namespace Wid

theorem pairs_step (r a b : Int) (l : List Int) : pairs r (a :: b :: l) = (within r a b || pairs r l) := rfl
theorem drop_two {l : List Int} {k : Nat} (h : k + 1 < l.length) : l.drop k = l.getD k 0 :: l.getD (k + 1) 0 :: l.drop (k + 2) := by
  rw [List.drop_eq_getElem_cons (by omega), List.drop_eq_getElem_cons (by omega)]
  simp [List.getD, show k < l.length by omega, h]
theorem pairs_short {r : Int} {l : List Int} (h : l.length ≤ 1) : pairs r l = false := by
  match l, h with
  | [], _ => rfl
  | [_], _ => rfl

set_option maxHeartbeats 800000 in
theorem between_any {x : Value} (r : Int) (n : Nat) (l : List Int) (w : World) (hx : Src w x n (ints l)) (hn : n ≤ 1000) :
    Calls Tryd.prog 53 #[.int .i64 r, x] w fun e w' => e = .returned (.bool (pairs r l)) ∧ w = w' := by
  have ln : l.length = n := by have := hx.len; rwa [ints_length] at this
  obtain ⟨A, c, rfl, ha⟩ := hx.form
  have ha' := Lib.hid ha
  have ln' := Lib.hid ln
  clear ha hx ln
  go_enter Tryd.func53, Tryd.ntmps53
  go_wp2_with fail
  go_loop [5] (fun i => ∃ k : Nat, k ≤ n + 1 ∧ i = .int .i64 k ∧ Hid (pairs r (l.drop k) = pairs r l)) (fun i => n + 2 - (intOf i).toNat)
  case atStart => exact ⟨0, by omega, rfl, Lib.hid rfl⟩
  case round =>
    obtain ⟨k, hk, rfl, HP⟩ := hrel
    by_cases hlt : k + 1 < n
    · obtain ⟨ad, rfl, h1⟩ := ha'.out k (by omega)
      obtain ⟨ad', e, h2⟩ := ha'.out (k + 1) hlt
      injection e with e; subst e
      rw [ints_get (by rw [ln'.out]; omega)] at h1
      rw [ints_get (by rw [ln'.out]; omega), show ad.add (k + 1) = { block := ad.block, off := ad.off + (k + 1) } from by simp [Addr.add]] at h2
      have HD : Hid (pairs r l = (within r (l.getD k 0) (l.getD (k + 1) 0) || pairs r (l.drop (k + 2)))) := Lib.hid (by
        rw [← HP.out, drop_two (by rw [ln'.out]; exact hlt), pairs_step])
      generalize l.getD k 0 = a at h1 HD
      generalize l.getD (k + 1) 0 = b at h2 HD
      have hc : decide ((k : Int) + 1 < (n : Int)) = true := decide_eq_true (by omega)
      by_cases g1 : a ≤ r
      · by_cases g2 : r ≤ b
        · have HR : Hid (pairs r l = true) := Lib.hid (by
            rw [HD.out]; unfold within; rw [decide_eq_true g1, decide_eq_true g2]; rfl)
          go_wp2_with fail
          go_ret
          exact ⟨ret_bool HR.out.symm, rfl⟩
        · have HR : Hid (pairs r (l.drop (k + 2)) = pairs r l) := Lib.hid (by
            rw [HD.out]; unfold within; rw [decide_eq_false g2, Bool.and_false, Bool.false_or])
          have hg2 : decide (r ≤ b) = false := decide_eq_false g2
          clear g2
          go_wp2_with fail
          go_round
          case rel => exact ⟨k + 2, by omega, by go_num, HR⟩
          case measure => simp [intOf]; omega
      · have HR : Hid (pairs r (l.drop (k + 2)) = pairs r l) := Lib.hid (by
          rw [HD.out]; unfold within; rw [decide_eq_false g1, Bool.false_and, Bool.false_or])
        have hg1 : decide (a ≤ r) = false := decide_eq_false g1
        clear g1
        go_wp2_with fail
        go_round
        case rel => exact ⟨k + 2, by omega, by go_num, HR⟩
        case measure => simp [intOf]; omega
    · have HR : Hid (pairs r l = false) := Lib.hid (by rw [← HP.out, pairs_short (by rw [List.length_drop, ln'.out]; omega)])
      have hc : decide ((k : Int) + 1 < (n : Int)) = false := decide_eq_false (by omega)
      clear hlt
      go_wp2_with fail
      go_ret
      exact ⟨ret_bool HR.out.symm, rfl⟩
def noneL : List Int := [127, 159, 55296, 57343]
def markL : List Int := [768, 879, 6832, 6911, 8203, 8207, 8400, 8447, 65024, 65039, 65056, 65071]
def wideL : List Int := [4352, 4447, 11904, 12350, 12353, 42191, 44032, 55203, 63744, 64255, 65072, 65135, 65280, 65376, 65504, 65510, 127744, 128591, 129280, 129535, 131072, 262141]
theorem none_pairs (r : Int) (h : decide (r < 32) = false) (k : decide (1114111 < r) = false) : isNone r = pairs r noneL := by
  unfold isNone; rw [h, k]; simp [noneL, pairs]
theorem mark_pairs (r : Int) : isMark r = pairs r markL := by simp [isMark, markL, pairs]
theorem wide_pairs (r : Int) : isWide r = pairs r wideL := by simp [isWide, wideL, pairs]
theorem between_at {x : Value} (r : Int) (n : Nat) (l : List Int) (b : Bool) (hb : pairs r l = b) (w : World) (hx : Src w x n (ints l)) (hn : n ≤ 1000) :
    Calls Tryd.prog 53 #[.int .i64 r, x] w fun e w' => e = .returned (.bool b) ∧ w = w' := by subst hb; exact between_any r n l w hx hn

set_option maxRecDepth 100000 in
set_option maxHeartbeats 1600000 in
theorem width_any (r : Int) (w : World) : Calls Tryd.prog 41 #[.int .i64 r] w fun e w' => e = .returned (.int .i64 (wid r)) ∧ Below w.heap.size w w' := by
  by_cases h1 : r < 32
  · have HW : Hid (wid r = -1) := Lib.hid (by unfold wid isNone; rw [decide_eq_true h1]; rfl)
    go_enter Tryd.func41, Tryd.ntmps41
    go_wp2_with fail
    go_ret
    exact ⟨ret_int HW.out.symm, Below.refl _ _⟩
  · by_cases h2 : 1114111 < r
    · have HW : Hid (wid r = -1) := Lib.hid (by unfold wid isNone; rw [decide_eq_true h2, Bool.or_true, Bool.or_true, Bool.or_true]; rfl)
      have hd1 : decide (r < 32) = false := decide_eq_false h1
      go_enter Tryd.func41, Tryd.ntmps41
      go_wp2_with fail
      go_ret
      exact ⟨ret_int HW.out.symm, Below.refl _ _⟩
    · have hd1 : decide (r < 32) = false := decide_eq_false h1
      have hd2 : decide (1114111 < r) = false := decide_eq_false h2
      have hN := none_pairs r hd1 hd2
      have hM := mark_pairs r
      have hI := wide_pairs r
      have hw : wid r = bif pairs r noneL then -1 else bif pairs r markL then 0 else bif pairs r wideL then 2 else 1 := by
        unfold wid; rw [hN, hM, hI]
      clear hN hM hI h1 h2
      cases p1 : pairs r noneL
      case true =>
        have HW : Hid (wid r = -1) := Lib.hid (by rw [hw, p1]; rfl)
        have P1 := Lib.hid p1
        clear hw p1
        go_enter Tryd.func41, Tryd.ntmps41
        go_wp2_with fail
        refine (between_at r 4 noneL _ P1.out _ (Src.made_at _ _ _ _ _ _ _ rfl rfl rfl) (by decide)).mono ?_; rintro e w' ⟨rfl, rfl⟩
        go_wp2_with fail
        go_ret
        exact ⟨ret_int HW.out.symm, (Below.refl _ _).alloc (Nat.le_refl _) _⟩
      case false =>
        have P1 := Lib.hid p1
        cases p2 : pairs r markL
        case true =>
          have HW : Hid (wid r = 0) := Lib.hid (by rw [hw, p1, p2]; rfl)
          have P2 := Lib.hid p2
          clear hw p1 p2
          go_enter Tryd.func41, Tryd.ntmps41
          go_wp2_with fail
          refine (between_at r 4 noneL _ P1.out _ (Src.made_at _ _ _ _ _ _ _ rfl rfl rfl) (by decide)).mono ?_; rintro e w' ⟨rfl, rfl⟩
          go_wp2_with fail
          refine (between_at r 12 markL _ P2.out _ (Src.made_at _ _ _ _ _ _ _ (by simp) rfl rfl) (by decide)).mono ?_; rintro e w' ⟨rfl, rfl⟩
          go_wp2_with fail
          go_ret
          exact ⟨ret_int HW.out.symm, ((Below.refl _ _).alloc (Nat.le_refl _) _).alloc (by simp) _⟩
        case false =>
          have P2 := Lib.hid p2
          cases p3 : pairs r wideL
          all_goals
            have HW : Hid (wid r = _) := Lib.hid (by rw [hw, p1, p2, p3])
            have P3 := Lib.hid p3
            clear hw p1 p2 p3
            go_enter Tryd.func41, Tryd.ntmps41
            go_wp2_with fail
            refine (between_at r 4 noneL _ P1.out _ (Src.made_at _ _ _ _ _ _ _ rfl rfl rfl) (by decide)).mono ?_; rintro e w' ⟨rfl, rfl⟩
            go_wp2_with fail
            refine (between_at r 12 markL _ P2.out _ (Src.made_at _ _ _ _ _ _ _ (by simp) rfl rfl) (by decide)).mono ?_; rintro e w' ⟨rfl, rfl⟩
            go_wp2_with fail
            refine (between_at r 22 wideL _ P3.out _ (Src.made_at _ _ _ _ _ _ _ (by simp) rfl rfl) (by decide)).mono ?_; rintro e w' ⟨rfl, rfl⟩
            go_wp2_with fail
            go_ret
            exact ⟨ret_int HW.out.symm, (((Below.refl _ _).alloc (Nat.le_refl _) _).alloc (by simp) _).alloc (by simp; omega) _⟩
end Wid
end Go.Proofs.YtchdkgmednoobaaDoor
