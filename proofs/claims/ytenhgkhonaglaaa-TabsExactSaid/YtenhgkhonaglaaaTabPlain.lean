/- Stops as plain lists of truths: the n-th one, how many, the next one and the one ahead; the ruler's bytes. -/
import Derived.Test.YtenhgkhonaglaaaBase
namespace Go.Proofs.Ytenhgkhonaglaaa
open Go.RowKit
namespace Tab

def bools (l : List Bool) : List Value := l.map Value.bool
theorem bools_length (l : List Bool) : (bools l).length = l.length := List.length_map _
theorem bools_append (a b : List Bool) : bools (a ++ b) = bools a ++ bools b := List.map_append
theorem bools_get {l : List Bool} {k : Nat} (h : k < l.length) : (bools l)[k]? = some (.bool (l.getD k false)) := by unfold bools; simp [h]
theorem bools_cells (l : List Bool) : ∀ u ∈ bools l, u.oneCell' = true := by
  intro u hu
  obtain ⟨_, _, rfl⟩ := List.mem_map.1 hu
  rfl
theorem take_succ_bool {l : List Bool} {k : Nat} (h : k < l.length) : l.take (k + 1) = l.take k ++ [l.getD k false] := by
  rw [List.take_succ_eq_append_getElem h]; simp [h]
theorem drop_bool {l : List Bool} {k : Nat} (h : k < l.length) : l.drop k = l.getD k false :: l.drop (k + 1) := by
  rw [List.drop_eq_getElem_cons h]; simp [h]
theorem eq_of_bools : ∀ {a b : List Bool}, a.length = b.length → (∀ k, k < a.length → a.getD k false = b.getD k false) → a = b
  | [], [], _, _ => rfl
  | x :: a, y :: b, hl, h => by
    have h0 : x = y := by simpa using h 0 (by simp)
    have : a = b := eq_of_bools (by simpa using hl) fun k hk => by simpa using h (k + 1) (by simpa using hk)
    rw [h0, this]

/-- The column of the n-th stop, n from 1 on. -/
def nth : List Bool → Nat → Option Nat
  | [], _ => none
  | b :: r, n => if b then (if n = 1 then some 0 else (nth r (n - 1)).map (· + 1)) else (nth r n).map (· + 1)
/-- How many stops. -/
def cnt : List Bool → Nat
  | [] => 0
  | b :: r => (if b then 1 else 0) + cnt r
/-- How far the n-th stop is, or the end. -/
def far : List Bool → Nat → Nat
  | [], _ => 0
  | _ :: _, 0 => 0
  | b :: r, n + 1 => 1 + far r (if b then n else n + 1)
def nextOf (l : List Bool) (at_ n : Nat) : Nat := at_ + far (l.drop (at_ + 1)) n
/-- The n-th stop ahead, or 0. -/
def backOf (l : List Bool) : Nat → Nat → Nat
  | 0, _ => 0
  | a + 1, 0 => a + 1
  | a + 1, n + 1 => backOf l a (if l.getD a false then n else n + 1)

theorem cnt_le : ∀ l : List Bool, cnt l ≤ l.length
  | [] => Nat.le_refl _
  | b :: r => by have := cnt_le r; simp only [cnt, List.length_cons]; split <;> omega
theorem cnt_snoc : ∀ (l : List Bool) (b : Bool), cnt (l ++ [b]) = cnt l + (if b then 1 else 0)
  | [], b => by simp [cnt]
  | x :: l, b => by rw [List.cons_append, cnt, cnt, cnt_snoc l b]; omega
theorem nth_none : ∀ (l : List Bool) (n : Nat), cnt l < n → nth l n = none
  | [], _, _ => rfl
  | b :: r, n, h => by
    simp only [cnt] at h
    cases b
    · simp only [nth]; rw [if_neg (by decide), nth_none r n (by simpa using h)]; rfl
    · simp only [nth]; simp only [if_true] at h ⊢; rw [if_neg (by omega), nth_none r (n - 1) (by omega)]; rfl
theorem nth_some : ∀ (l : List Bool) (n : Nat), 1 ≤ n → n ≤ cnt l → ∃ i, nth l n = some i ∧ i < l.length
  | [], n, h1, h2 => by simp only [cnt] at h2; omega
  | b :: r, n, h1, h2 => by
    simp only [cnt] at h2
    cases b
    · obtain ⟨i, hi, hl⟩ := nth_some r n h1 (by simpa using h2)
      exact ⟨i + 1, by simp only [nth]; rw [if_neg (by decide), hi]; rfl, by simp only [List.length_cons]; omega⟩
    · by_cases h : n = 1
      · exact ⟨0, by simp [nth, h], by simp⟩
      · simp only [if_true] at h2
        obtain ⟨i, hi, hl⟩ := nth_some r (n - 1) (by omega) (by omega)
        exact ⟨i + 1, by simp only [nth]; rw [if_pos trivial, if_neg h, hi]; rfl, by simp only [List.length_cons]; omega⟩
/-- By the n-th stop: how far. -/
theorem far_nth : ∀ (l : List Bool) (n : Nat), 1 ≤ n → far l n = match nth l n with | some i => i + 1 | none => l.length
  | [], n, h => by simp [far, nth]
  | b :: r, n + 1, h => by
    simp only [far]
    cases b
    · rw [if_neg (by decide), far_nth r (n + 1) (by omega)]
      simp only [nth]
      rw [if_neg (by decide)]
      cases nth r (n + 1) with
      | none => show 1 + r.length = r.length + 1; omega
      | some i => show 1 + (i + 1) = i + 1 + 1; omega
    · rw [if_pos rfl]
      simp only [nth]
      rw [if_pos trivial]
      by_cases hn : n = 0
      · subst hn
        cases r <;> simp [far]
      · rw [if_neg (by omega), Nat.add_sub_cancel, far_nth r n (by omega)]
        cases nth r n with
        | none => show 1 + r.length = r.length + 1; omega
        | some i => show 1 + (i + 1) = i + 1 + 1; omega
theorem far_le : ∀ (l : List Bool) (n : Nat), far l n ≤ l.length
  | [], _ => Nat.le_refl _
  | _ :: _, 0 => Nat.zero_le _
  | b :: r, n + 1 => by have := far_le r (if b then n else n + 1); simp only [far, List.length_cons]; omega
theorem nth_snoc : ∀ (l : List Bool) (b : Bool) (n : Nat), 1 ≤ n → nth (l ++ [b]) n = match nth l n with | some i => some i | none => if b = true ∧ cnt l + 1 = n then some l.length else none
  | [], b, n, h => by
    cases b
    · simp [nth]
    · by_cases hn : n = 1
      · simp [nth, cnt, hn]
      · have : ¬ (0 + 1 = n) := by omega
        simp [nth, cnt, hn]; omega
  | x :: l, b, n, h => by
    rw [List.cons_append]
    simp only [nth, cnt]
    cases x
    · rw [if_neg (by decide), if_neg (by decide), nth_snoc l b n h]
      cases nth l n with
      | some i => rfl
      | none => simp only [Option.map_none, if_neg (show ¬ (false = true) by decide), Nat.zero_add]; split <;> simp
    · simp only [if_true]
      by_cases hn : n = 1
      · simp [hn]
      · rw [if_neg hn, if_neg hn, nth_snoc l b (n - 1) (by omega)]
        cases nth l (n - 1) with
        | some i => rfl
        | none =>
          simp only [Option.map_none]
          by_cases hb : b = true ∧ cnt l + 1 = n - 1
          · rw [if_pos hb, if_pos ⟨hb.1, by omega⟩]; simp
          · rw [if_neg hb, if_neg (fun e => hb ⟨e.1, by omega⟩)]; rfl
/-- By the n-th stop from the other side: the one ahead. -/
theorem backOf_nth (l : List Bool) : ∀ (a n : Nat), a ≤ l.length → 1 ≤ n → backOf l a n = if cnt (l.take a) < n then 0 else match nth (l.take a) (cnt (l.take a) + 1 - n) with | some i => i | none => 0
  | 0, n, ha, hn => by simp [backOf, cnt, show 0 < n from hn]
  | a + 1, n + 1, ha, hn => by
    rw [take_succ_bool (l := l) (k := a) (by omega), cnt_snoc]
    simp only [backOf]
    cases hb : l.getD a false
    · simp only [if_neg (show ¬ (false = true) by decide), Nat.add_zero]
      rw [backOf_nth l a (n + 1) (by omega) (by omega)]
      by_cases hc : cnt (l.take a) < n + 1
      · rw [if_pos hc, if_pos hc]
      · rw [if_neg hc, if_neg hc, nth_snoc _ _ _ (by omega)]
        obtain ⟨i, hi, _⟩ := nth_some (l.take a) (cnt (l.take a) + 1 - (n + 1)) (by omega) (by omega)
        rw [hi]
    · simp only [if_true]
      by_cases hn0 : n = 0
      · subst hn0
        rw [if_neg (by omega), nth_snoc _ _ _ (by omega), nth_none _ _ (by omega)]
        have hl : (l.take a).length = a := by rw [List.length_take]; omega
        simp only [Nat.zero_add, Nat.add_sub_cancel, and_self, if_true, hl]
        cases a <;> rfl
      · rw [backOf_nth l a n (by omega) (by omega)]
        by_cases hc : cnt (l.take a) < n
        · rw [if_pos hc, if_pos (by omega)]
        · rw [if_neg hc, if_neg (by omega), nth_snoc _ _ _ (by omega), show cnt (l.take a) + 1 + 1 - (n + 1) = cnt (l.take a) + 1 - n from by omega]
          obtain ⟨i, hi, _⟩ := nth_some (l.take a) (cnt (l.take a) + 1 - n) (by omega) (by omega)
          rw [hi]
theorem backOf_zero (l : List Bool) (a : Nat) : backOf l a 0 = a := by cases a <;> rfl
theorem far_zero (l : List Bool) : far l 0 = 0 := by cases l <;> rfl
theorem nextOf_zero (l : List Bool) (a : Nat) : nextOf l a 0 = a := by unfold nextOf; rw [far_zero]; omega
theorem nextOf_le {l : List Bool} {a n : Nat} (h : a < l.length) : nextOf l a n < l.length := by
  unfold nextOf
  have := far_le (l.drop (a + 1)) n
  rw [List.length_drop] at this; omega
theorem backOf_le (l : List Bool) : ∀ a n : Nat, backOf l a n ≤ a
  | 0, _ => Nat.le_refl _
  | a + 1, 0 => Nat.le_refl _
  | a + 1, n + 1 => by have := backOf_le l a (if l.getD a false then n else n + 1); simp only [backOf]; omega

/-! ### what is seen of the next one -/
theorem nextOf_one_last {l : List Bool} {a : Nat} (h : a + 1 = l.length) : nextOf l a 1 = a := by
  unfold nextOf; rw [List.drop_of_length_le (by omega)]; rfl
theorem far_one : ∀ r : List Bool, r ≠ [] → 1 ≤ far r 1
  | [], h => absurd rfl h
  | b :: r, _ => by simp only [far]; omega
theorem far_one_free : ∀ (r : List Bool) (k : Nat), k + 1 < far r 1 → r.getD k false = false
  | [], k, h => by simp
  | b :: r, k, h => by
    simp only [far, Nat.zero_add] at h
    cases b
    · cases k with
      | zero => rfl
      | succ k =>
        have h' : k + 1 < far r 1 := by simp at h; omega
        simpa using far_one_free r k h'
    · simp only [if_true, far_zero] at h; omega
theorem far_one_stop : ∀ (r : List Bool), far r 1 < r.length → r.getD (far r 1 - 1) false = true
  | [], h => by simp [far] at h
  | b :: r, h => by
    simp only [far, Nat.zero_add, List.length_cons] at h ⊢
    cases b
    · rw [if_neg (by decide)] at h ⊢
      have h1 := far_one_stop r (by omega)
      have hr : r ≠ [] := by rintro rfl; simp [far] at h
      have := far_one r hr
      rw [show 1 + far r 1 - 1 = far r 1 - 1 + 1 from by omega]
      simpa using h1
    · simp [far_zero]

/-! ### new stops -/
/-- As many columns as wanted: the old ones first, stops at 8, 16, .. behind them. -/
def stopAt (i : Nat) : Bool := decide (0 < i) && decide (i % 8 = 0)
def grownOf (l : List Bool) (n : Nat) : List Bool := l.take n ++ (List.range' l.length (n - l.length)).map stopAt
theorem grownOf_length (l : List Bool) (n : Nat) : (grownOf l n).length = n := by
  unfold grownOf; rw [List.length_append, List.length_take, List.length_map, List.length_range']; omega

/-! ### a ruler -/
def mark (b : Bool) : UInt8 := if b then 124 else 46
def rul (l : List Bool) : List UInt8 := l.map mark
theorem rul_length (l : List Bool) : (rul l).length = l.length := List.length_map _
theorem rul_append (a b : List Bool) : rul (a ++ b) = rul a ++ rul b := List.map_append
end Tab
end Go.Proofs.Ytenhgkhonaglaaa
