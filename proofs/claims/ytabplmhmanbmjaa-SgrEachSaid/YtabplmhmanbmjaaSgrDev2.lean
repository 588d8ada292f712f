/- The developers' orders: a number that stands by itself. -/
import Derived.Test.YtabplmhmanbmjaaSgrDev
import Derived.Lib.OthersKept
namespace Go.Proofs.Ytabplmhmanbmjaa
set_option maxRecDepth 100000
open Go.RowKit
namespace Sd
open Sgr
/-- The digits of the flags' numbers. -/
def digs : ByteArray := ⟨#[49, 50, 51, 52, 53, 55, 56, 57]⟩
theorem dec_all : ∀ k : Fin 8, ((Utf8.decode digs k.val).1 : Int) = 48 + digit k.val ∧ (Utf8.decode digs k.val).2 = 1 := by decide +kernel
theorem next_dig (w : World) (k : Nat) (ty : TypeId) (h : k < 8) : (Instr.next (.pointer (some ⟨w.heap.size, 0, none⟩)) true ty).run Try.prog (w.iter digs k) =
      .ok (.tuple #[.bool true, .int .i64 k, .int .i32 (48 + digit k)]) (w.iter digs (k + 1)) := by
  rw [run_next_any w digs k ty h]
  have := dec_all ⟨k, h⟩
  rw [this.1, this.2]
theorem next_end (w : World) (ty : TypeId) : (Instr.next (.pointer (some ⟨w.heap.size, 0, none⟩)) true ty).run Try.prog (w.iter digs 8) = .ok (.tuple #[.bool false]) (w.iter digs 8) := run_next_end w digs 8 ty (by decide)
theorem flag_zero (n : Int) (h : ∀ j, j < 8 → digit j ≠ n) : flagOf n = 0 := by
  have h0 := h 0 (by decide); have h1 := h 1 (by decide); have h2 := h 2 (by decide); have h3 := h 3 (by decide)
  have h4 := h 4 (by decide); have h5 := h 5 (by decide); have h6 := h 6 (by decide); have h7 := h 7 (by decide)
  simp only [digit] at h0 h1 h2 h3 h4 h5 h6 h7
  unfold flagOf
  repeat' split
  all_goals first | rfl | (subst n; simp at h0 h1 h2 h3 h4 h5 h6 h7)
theorem sflag_all : ∀ k : Fin 8, flagOf (digit k.val) = 2 ^ k.val := by decide +kernel
theorem spow_all : ∀ k : Fin 8, wrap64 ((2 : Int) ^ k.val) = 2 ^ k.val := by decide +kernel
theorem below_iter {B : Nat} {a w : World} (h : Below B a w) (hB : B ≤ w.heap.size) (s : ByteArray) (pos : Nat) : Below B a (w.iter s pos) := h.alloc hB _
set_option maxHeartbeats 800000 in
theorem flag_any (n : Int) (w : World) : Calls Try.prog 36 #[.int .i64 n] w fun e w' => e = .returned (.int .i64 (flagOf n)) ∧ Below w.heap.size w w' := by
  go_enter Try.func36, Try.ntmps36
  go_wp2_with fail
  go_loopw [] (fun wr => ∃ k : Nat, k ≤ 8 ∧ wr = w.iter digs k ∧ Hid (∀ j, j < k → digit j ≠ n)) (fun wr => 8 - wr.iterPos w.heap.size)
  case atStart => exact ⟨0, by omega, rfl, Lib.hid fun j hj => absurd hj (Nat.not_lt_zero _)⟩
  case round =>
    obtain ⟨k, hk, rfl, HB⟩ := hrel
    have HP : Hid ((w.iter digs k).iterPos w.heap.size = k) := Lib.hid (World.iterPos_iter w digs k)
    by_cases hlt : k < 8
    · have hnx := fun ty => next_dig w k ty hlt
      have HBl : Hid (Below w.heap.size w (w.iter digs (k + 1))) := Lib.hid (below_iter (Below.refl _ _) (Nat.le_refl _) _ _)
      have HP2 : Hid ((w.iter digs (k + 1)).iterPos w.heap.size = k + 1) := Lib.hid (World.iterPos_iter w digs (k + 1))
      obtain ⟨d0, d1⟩ := digit_cases k hlt
      have hk0 : (0 : Int) ≤ k := by omega
      have hd : digit k = n ∨ digit k ≠ n := by omega
      have HF : Hid (digit k = n → flagOf n = 2 ^ k) := Lib.hid fun e => by rw [← e]; exact sflag_all ⟨k, hlt⟩
      have HW : Hid (wrap64 ((2 : Int) ^ k) = 2 ^ k) := Lib.hid (spow_all ⟨k, hlt⟩)
      have HN : Hid (digit k ≠ n → ∀ j, j < k + 1 → digit j ≠ n) := Lib.hid fun h j hj => by
        by_cases e : j = k
        · rw [e]; exact h
        · exact HB.out j (by omega)
      generalize digit k = r at *
      rcases hd with he | he
      · have HF2 := Lib.hid (HF.out he)
        have hq : (48 + r - 48 == n) = true := by rw [beq_iff_eq]; omega
        clear he HF HN
        go_wp2_with fail
        go_ret
        exact ⟨ret_int (by rw [HF2.out, HW.out]), HBl.out⟩
      · have HN2 := Lib.hid (HN.out he)
        have hq : (48 + r - 48 == n) = false := by rw [beq_eq_false_iff_ne]; omega
        clear he HF HN
        go_wp2_with fail
        go_roundw
        case rel => exact ⟨k + 1, by omega, by trivial, HN2⟩
        case measure => rw [HP.out, HP2.out]; omega
    · obtain rfl : k = 8 := by omega
      have hnx := fun ty => next_end w ty
      have HF : Hid (flagOf n = 0) := Lib.hid (flag_zero n HB.out)
      have HBl : Hid (Below w.heap.size w (w.iter digs 8)) := Lib.hid (below_iter (Below.refl _ _) (Nat.le_refl _) _ _)
      go_wp2_with fail
      go_ret
      exact ⟨ret_int (by rw [HF.out]), HBl.out⟩

theorem alone_any (n : Int) (h0 : 0 ≤ n) (h1 : n ≤ 9999) (w : World) : Calls Try.prog 34 #[.int .i64 n] w fun e w' => e = .returned (ordVal (aloneOf n)) ∧ Below w.heap.size w w' := by
  by_cases hA : n = 0
  · have HE : Hid (aloneOf n = .plain) := Lib.hid (by unfold aloneOf; rw [if_pos hA])
    have b0 : (n == 0) = true := by rw [beq_iff_eq]; exact hA
    rw [HE.out]
    clear hA
    go_enter Try.func34, Try.ntmps34
    go_wp2_with fail
    go_ret
    exact ⟨rfl, Below.refl _ _⟩
  have b0 : (n == 0) = false := by rw [beq_eq_false_iff_ne]; exact hA
  by_cases hB : n ≤ 9
  · have HE : Hid (aloneOf n = .on (flagOf n)) := Lib.hid (by unfold aloneOf; rw [if_neg hA, if_pos hB])
    rw [HE.out]
    clear hA
    go_enter Try.func34, Try.ntmps34
    go_wp2_with fail
    refine (flag_any n _).mono ?_; rintro e w' ⟨rfl, hb⟩
    go_wp2_with fail
    go_ret
    exact ⟨rfl, hb⟩
  have d9 : decide (n ≤ 9) = false := decide_eq_false hB
  by_cases hC : n = 22
  · have HE : Hid (aloneOf n = .off 3) := Lib.hid (by unfold aloneOf; rw [if_neg hA, if_neg hB, if_pos hC])
    have b22 : (n == 22) = true := by rw [beq_iff_eq]; exact hC
    rw [HE.out]
    clear hA hB hC
    go_enter Try.func34, Try.ntmps34
    go_wp2_with fail
    go_ret
    exact ⟨rfl, Below.refl _ _⟩
  have b22 : (n == 22) = false := by rw [beq_eq_false_iff_ne]; exact hC
  by_cases hD : 23 ≤ n ∧ n ≤ 29
  · have HE : Hid (aloneOf n = .off (flagOf (n - 20))) := Lib.hid (by unfold aloneOf; rw [if_neg hA, if_neg hB, if_neg hC, if_pos hD])
    have R23 : Hid (rng n 23 29 = true) := Lib.hid (rng_yes hD)
    rw [HE.out]
    clear hA hB hC hD
    go_enter Try.func34, Try.ntmps34
    go_wp2_with fail
    refine (in_any n 23 29 _).mono ?_; rw [R23.out]; rintro e w' ⟨rfl, rfl⟩
    go_wp2_with fail
    refine (flag_any (n - 20) _).mono ?_; rintro e w' ⟨rfl, hb⟩
    go_wp2_with fail
    go_ret
    exact ⟨rfl, hb⟩
  have R23 : Hid (rng n 23 29 = false) := Lib.hid (rng_no hD)
  by_cases hE : (30 ≤ n ∧ n ≤ 37) ∨ n = 39 ∨ (90 ≤ n ∧ n ≤ 97)
  · have HE : Hid (aloneOf n = shortOf n) := Lib.hid (by unfold aloneOf; rw [if_neg hA, if_neg hB, if_neg hC, if_neg hD, if_pos hE])
    obtain ⟨c, hc⟩ : ∃ c, shortOf n = .front c := by
      unfold shortOf
      rcases hE with h | h | h
      · exact ⟨_, if_pos h⟩
      · exact ⟨-1, by rw [if_neg (by omega), if_pos h]⟩
      · exact ⟨n - 82, by rw [if_neg (by omega), if_neg (by omega), if_pos h]⟩
    have HC := Lib.hid hc
    rw [HE.out, hc]
    clear hA hB hC hD hE hc
    go_enter Try.func34, Try.ntmps34
    go_wp2_with fail
    refine (in_any n 23 29 _).mono ?_; rw [R23.out]; rintro e w' ⟨rfl, rfl⟩
    go_wp2_with fail
    refine (short_any n (by omega) (by omega) _).mono ?_; rw [HC.out]; simp only [ordVal]; rintro e w' ⟨rfl, rfl⟩
    go_wp2_with fail
    go_ret
    exact ⟨rfl, Below.refl _ _⟩
  · have HE : Hid (aloneOf n = behindOf (shortOf (n - 10))) := Lib.hid (by unfold aloneOf; rw [if_neg hA, if_neg hB, if_neg hC, if_neg hD, if_neg hE])
    have HV : Hid (shortOf n = .void) := Lib.hid (by unfold shortOf; rw [if_neg (fun h => hE (.inl h)), if_neg (fun h => hE (.inr (.inl h))), if_neg (fun h => hE (.inr (.inr h)))])
    rw [HE.out]
    clear hA hB hC hD hE
    go_enter Try.func34, Try.ntmps34
    go_wp2_with fail
    refine (in_any n 23 29 _).mono ?_; rw [R23.out]; rintro e w' ⟨rfl, rfl⟩
    go_wp2_with fail
    refine (short_any n (by omega) (by omega) _).mono ?_; rw [HV.out]; simp only [ordVal]; rintro e w' ⟨rfl, rfl⟩
    go_wp2_with fail
    refine (short_any (n - 10) (by omega) (by omega) _).mono ?_; rintro e w' ⟨rfl, rfl⟩
    go_wp2_with fail
    refine (behind_any (shortOf (n - 10)) _).mono ?_; rintro e w' ⟨rfl, rfl⟩
    go_wp2_with fail
    go_ret
    exact ⟨rfl, Below.refl _ _⟩
end Sd
end Go.Proofs.Ytabplmhmanbmjaa
