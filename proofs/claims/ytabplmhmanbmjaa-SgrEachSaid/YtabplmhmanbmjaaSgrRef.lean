/- How cells look, the reference's side: which attributes may be, the place of a number in a list, a colour behind 38 or 48. -/
import Derived.Test.YtabplmhmanbmjaaNums
namespace Go.Proofs.Ytabplmhmanbmjaa
set_option maxRecDepth 100000
open Go.RowKit
namespace Sgr

/-- How a cell looks. -/
structure Look where
  fg : Int
  bg : Int
  flags : Int
def rng (n lo hi : Int) : Bool := decide (lo ≤ n) && decide (n ≤ hi)
def colourOk (n : Int) : Bool := rng n (-1) 16777471
def attrOk (a : Look) : Bool := colourOk a.fg && colourOk a.bg && rng a.flags 0 255
def paramsOk (l : List Int) : Bool := l.all fun n => rng n (-1) 9999
/-- Where n stands in l; -1: nowhere. -/
def idx : List Int → Int → Int
  | [], _ => -1
  | x :: l, n => if x = n then 0 else if idx l n < 0 then -1 else idx l n + 1
theorem idx_ge (n : Int) : ∀ l, -1 ≤ idx l n
  | [] => by simp [idx]
  | x :: l => by
    have := idx_ge n l
    unfold idx
    split
    · omega
    split <;> omega
theorem idx_none {n : Int} : ∀ {l : List Int}, (∀ j, j < l.length → l.getD j 0 ≠ n) → idx l n = -1
  | [], _ => rfl
  | x :: l, h => by
    have h0 : x ≠ n := by simpa using h 0 (by simp)
    have h1 : idx l n = -1 := idx_none fun j hj => by simpa using h (j + 1) (by simpa using hj)
    unfold idx
    rw [if_neg h0, h1]; rfl
theorem idx_at {n : Int} : ∀ {l : List Int} {k : Nat}, k < l.length → l.getD k 0 = n → (∀ j, j < k → l.getD j 0 ≠ n) → idx l n = k
  | x :: l, 0, _, h, _ => by
    unfold idx
    rw [if_pos (by simpa using h)]; rfl
  | x :: l, k + 1, hk, h, hb => by
    have h0 : x ≠ n := by simpa using hb 0 (by omega)
    have h1 : idx l n = k := idx_at (by simpa using hk) (by simpa using h) fun j hj => by simpa using hb (j + 1) (by omega)
    unfold idx
    rw [if_neg h0, h1, if_neg (by omega)]; simp

theorem between_any (n lo hi : Int) (w : World) : Calls Try.prog 29 #[.int .i64 n, .int .i64 lo, .int .i64 hi] w fun e w' => e = .returned (.bool (rng n lo hi)) ∧ w = w' := by
  by_cases h : lo ≤ n
  · by_cases k : n ≤ hi
    · have H : Hid (rng n lo hi = true) := Lib.hid (by unfold rng; rw [decide_eq_true h, decide_eq_true k]; rfl)
      go_enter Try.func29, Try.ntmps29
      go_wp2_with fail
      go_ret
      exact ⟨ret_bool H.out.symm, rfl⟩
    · have H : Hid (rng n lo hi = false) := Lib.hid (by unfold rng; rw [decide_eq_false k, Bool.and_false])
      have hd : decide (n ≤ hi) = false := decide_eq_false k
      go_enter Try.func29, Try.ntmps29
      go_wp2_with fail
      go_ret
      exact ⟨ret_bool H.out.symm, rfl⟩
  · have H : Hid (rng n lo hi = false) := Lib.hid (by unfold rng; rw [decide_eq_false h, Bool.false_and])
    have hd : decide (lo ≤ n) = false := decide_eq_false h
    go_enter Try.func29, Try.ntmps29
    go_wp2_with fail
    go_ret
    exact ⟨ret_bool H.out.symm, rfl⟩
theorem colour_ok (n : Int) (w : World) : Calls Try.prog 20 #[.int .i64 n] w fun e w' => e = .returned (.bool (colourOk n)) ∧ w = w' := by
  go_enter Try.func20, Try.ntmps20
  go_wp2_with fail
  refine (between_any _ _ _ _).mono ?_; rintro e w' ⟨rfl, rfl⟩
  go_wp2_with fail
  go_ret
  exact ⟨rfl, rfl⟩

set_option maxHeartbeats 800000 in
theorem in_any (l : List Int) (x : Value) (n : Int) (w : World) (hx : Src w x l.length (ints l)) (hl : l.length ≤ 1000000000) :
    Calls Try.prog 30 #[x, .int .i64 n] w fun e w' => e = .returned (.int .i64 (idx l n)) ∧ w = w' := by
  obtain ⟨A, c, rfl, hA⟩ := hx.form
  have HA := Lib.hid hA
  clear hA hx
  go_enter Try.func30, Try.ntmps30
  go_wp2_with fail
  go_loopw [5] (fun i wr => ∃ k : Nat, k ≤ l.length ∧ i = .int .i64 k ∧ wr = w ∧ Hid (∀ j, j < k → l.getD j 0 ≠ n)) (fun i _ => l.length - (intOf i).toNat)
  case atStart => exact ⟨0, by omega, rfl, rfl, Lib.hid (fun j hj => absurd hj (by omega))⟩
  case round =>
    obtain ⟨k, hk, rfl, rfl, HB⟩ := hrel
    by_cases hlt : k < l.length
    · obtain ⟨ad, rfl, hE⟩ := HA.out k hlt
      rw [ints_get hlt] at hE
      by_cases he : l.getD k 0 = n
      · have HI : Hid (idx l n = k) := Lib.hid (idx_at hlt he HB.out)
        rw [he] at hE
        clear he
        go_wp2_with fail
        go_ret
        exact ⟨ret_int HI.out.symm, rfl⟩
      · have HN : Hid (∀ j, j < k + 1 → l.getD j 0 ≠ n) := Lib.hid fun j hj => by
          by_cases e : j = k
          · subst e; exact he
          · exact HB.out j (by omega)
        have hne : (l.getD k 0 == n) = false := by rw [beq_eq_false_iff_ne]; exact he
        generalize l.getD k 0 = y at hE hne
        clear he
        go_wp2_with fail
        go_roundw
        case rel => exact ⟨k + 1, by omega, by go_num, by trivial, HN⟩
        case measure => simp [intOf]; omega
    · have HI : Hid (idx l n = -1) := Lib.hid (idx_none fun j hj => HB.out j (by omega))
      have hd : decide (k < l.length) = false := decide_eq_false hlt
      clear hlt
      go_wp2_with fail
      go_ret
      exact ⟨ret_int HI.out.symm, rfl⟩
end Sgr
end Go.Proofs.Ytabplmhmanbmjaa
