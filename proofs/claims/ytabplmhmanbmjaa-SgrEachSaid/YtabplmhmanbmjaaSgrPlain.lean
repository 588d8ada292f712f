/- How cells look, as plain functions: what numbers make of an attribute, the numbers that make one, and that these make it. -/
import Derived.Test.YtabplmhmanbmjaaSgrRef5
namespace Go.Proofs.Ytabplmhmanbmjaa
set_option maxRecDepth 100000
open Go.RowKit
namespace Sgr

def bare : Look := ⟨-1, -1, 0⟩
/-- The flag of a number that stands by itself: 0, if it has none. -/
def flagOf (n : Int) : Int := if n = 1 then 1 else if n = 2 then 2 else if n = 3 then 4 else if n = 4 then 8 else if n = 5 then 16 else if n = 7 then 32 else if n = 8 then 64 else if n = 9 then 128 else 0
def addFlag (f g : Int) : Int := bits .or .i64 f g
def subFlag (f g : Int) : Int := bits .andNot .i64 f g
/-- One number alone. -/
def one (a : Look) (n : Int) : Look :=
  if n = 0 then bare
  else if n ≤ 9 then ⟨a.fg, a.bg, addFlag a.flags (flagOf n)⟩
  else if n = 22 then ⟨a.fg, a.bg, subFlag a.flags 3⟩
  else if 23 ≤ n ∧ n ≤ 29 then ⟨a.fg, a.bg, subFlag a.flags (flagOf (n - 20))⟩
  else if 30 ≤ n ∧ n ≤ 37 then ⟨n - 30, a.bg, a.flags⟩
  else if 90 ≤ n ∧ n ≤ 97 then ⟨n - 82, a.bg, a.flags⟩
  else if 40 ≤ n ∧ n ≤ 47 then ⟨a.fg, n - 40, a.flags⟩
  else if 100 ≤ n ∧ n ≤ 107 then ⟨a.fg, n - 92, a.flags⟩
  else if n = 39 then ⟨-1, a.bg, a.flags⟩
  else if n = 49 then ⟨a.fg, -1, a.flags⟩
  else a
/-- A colour (-1: none) behind 38 or 48. -/
def setc (a : Look) (n c : Int) : Look := if c < 0 then a else if n = 38 then ⟨c, a.bg, a.flags⟩ else ⟨a.fg, c, a.flags⟩
/-- Numbers in order; none told is 0. -/
def runs (a : Look) (l : List Int) : Look :=
  match l with
  | [] => a
  | x :: l => if max 0 x = 38 ∨ max 0 x = 48 then (if (colourOf l).2 = 0 then a else runs (setc a (max 0 x) (colourOf l).1) (l.drop (colourOf l).2.toNat)) else runs (one a (max 0 x)) l
termination_by l.length
decreasing_by all_goals (simp; try omega)
def applyOf (a : Look) (l : List Int) : Look := if l = [] then bare else runs a l
theorem runs_nil (a : Look) : runs a [] = a := by rw [runs]
theorem runs_one (a : Look) (x : Int) (l : List Int) (h : ¬(max 0 x = 38 ∨ max 0 x = 48)) : runs a (x :: l) = runs (one a (max 0 x)) l := by rw [runs, if_neg h]
theorem runs_none (a : Look) (x : Int) (l : List Int) (h : max 0 x = 38 ∨ max 0 x = 48) (hc : (colourOf l).2 = 0) : runs a (x :: l) = a := by rw [runs, if_pos h, if_pos hc]
theorem runs_set (a : Look) (x : Int) (l : List Int) (h : max 0 x = 38 ∨ max 0 x = 48) (hc : (colourOf l).2 ≠ 0) : runs a (x :: l) = runs (setc a (max 0 x) (colourOf l).1) (l.drop (colourOf l).2.toNat) := by rw [runs, if_pos h, if_neg hc]

/-! ### flags -/
theorem flag_cases (n : Int) : flagOf n = 0 ∨ ∃ k : Fin 8, flagOf n = 2 ^ k.val := by
  unfold flagOf
  repeat' split
  · exact .inr ⟨0, rfl⟩
  · exact .inr ⟨1, rfl⟩
  · exact .inr ⟨2, rfl⟩
  · exact .inr ⟨3, rfl⟩
  · exact .inr ⟨4, rfl⟩
  · exact .inr ⟨5, rfl⟩
  · exact .inr ⟨6, rfl⟩
  · exact .inr ⟨7, rfl⟩
  · exact .inl rfl
theorem all_none : ∀ f : Fin 256, addFlag (f.val : Int) 0 = f.val ∧ subFlag (f.val : Int) 0 = f.val := by decide +kernel
theorem all_three : ∀ f : Fin 256, 0 ≤ subFlag (f.val : Int) 3 ∧ subFlag (f.val : Int) 3 ≤ 255 := by decide +kernel
theorem all_flags : ∀ (f : Fin 256) (k : Fin 8), (0 ≤ addFlag (f.val : Int) (2 ^ k.val) ∧ addFlag (f.val : Int) (2 ^ k.val) ≤ 255) ∧ (0 ≤ subFlag (f.val : Int) (2 ^ k.val) ∧ subFlag (f.val : Int) (2 ^ k.val) ≤ 255) := by decide +kernel
def Byt (f : Int) : Prop := 0 ≤ f ∧ f ≤ 255
theorem Byt.fin {f : Int} (h : Byt f) : ∃ g : Fin 256, f = (g.val : Int) := ⟨⟨f.toNat, by have := h.1; have := h.2; omega⟩, by have := h.1; simp; omega⟩
theorem add_none0 {f : Int} (h : Byt f) : addFlag f 0 = f := by
  obtain ⟨g, rfl⟩ := h.fin; exact (all_none g).1
theorem sub_none0 {f : Int} (h : Byt f) : subFlag f 0 = f := by
  obtain ⟨g, rfl⟩ := h.fin; exact (all_none g).2
theorem Byt.add {f : Int} (h : Byt f) (n : Int) : Byt (addFlag f (flagOf n)) := by
  obtain ⟨g, rfl⟩ := h.fin
  rcases flag_cases n with e | ⟨k, e⟩
  · rw [e, (all_none g).1]; exact h
  · rw [e]; exact (all_flags g k).1
theorem Byt.sub {f : Int} (h : Byt f) (n : Int) : Byt (subFlag f (flagOf n)) := by
  obtain ⟨g, rfl⟩ := h.fin
  rcases flag_cases n with e | ⟨k, e⟩
  · rw [e, (all_none g).2]; exact h
  · rw [e]; exact (all_flags g k).2
theorem Byt.three {f : Int} (h : Byt f) : Byt (subFlag f 3) := by
  obtain ⟨g, rfl⟩ := h.fin; exact all_three g
theorem one_byt {a : Look} (h : Byt a.flags) (n : Int) : Byt (one a n).flags := by
  unfold one bare
  repeat' split
  · exact ⟨by decide, by decide⟩
  · exact h.add n
  · exact h.three
  · exact h.sub _
  all_goals exact h
theorem setc_byt {a : Look} (h : Byt a.flags) (n c : Int) : Byt (setc a n c).flags := by
  unfold setc
  repeat' split
  all_goals exact h
theorem attr_byt {a : Look} (h : attrOk a = true) : Byt a.flags := by
  unfold attrOk rng at h
  simp only [Bool.and_eq_true, decide_eq_true_eq] at h
  exact h.2

/-! ### what a colour reads, none told being 0 -/
def zeros (l : List Int) : List Int := l.map (max 0)
theorem zeros_get (l : List Int) (k : Nat) : (zeros l).getD k 0 = max 0 (l.getD k 0) := by
  unfold zeros
  by_cases h : k < l.length <;> simp [List.getD, h]
theorem colour_zeros (l : List Int) : colourOf (zeros l) = colourOf l := by
  have e5 : (max 0 (l.getD 0 0) = 5) ↔ (l.getD 0 0 = 5) := by omega
  have e2 : (max 0 (l.getD 0 0) = 2) ↔ (l.getD 0 0 = 2) := by omega
  have m (x : Int) : max 0 (max 0 x) = max 0 x := by omega
  unfold colourOf rgbOf
  simp only [zeros_get, e5, e2, m]
  simp only [zeros, List.length_map]
theorem zeros_drop (l : List Int) (k : Nat) : (zeros l).drop k = zeros (l.drop k) := by unfold zeros; rw [List.map_drop]
theorem runs_zeros (n : Nat) : ∀ (l : List Int) (a : Look), l.length ≤ n → runs a (zeros l) = runs a l := by
  induction n with
  | zero =>
    intro l a h
    have : l = [] := List.eq_nil_of_length_eq_zero (by omega)
    subst this; rfl
  | succ n ih =>
    intro l a h
    match l with
    | [] => rfl
    | x :: l =>
      have hl : l.length ≤ n := by simpa using h
      have ez : zeros (x :: l) = max 0 x :: zeros l := rfl
      have m : max 0 (max 0 x) = max 0 x := by omega
      rw [ez]
      by_cases hx : max 0 x = 38 ∨ max 0 x = 48
      · by_cases hc : (colourOf l).2 = 0
        · rw [runs_none _ _ _ hx hc, runs_none _ _ _ (by rw [m]; exact hx) (by rw [colour_zeros]; exact hc)]
        · rw [runs_set _ _ _ hx hc, runs_set _ _ _ (by rw [m]; exact hx) (by rw [colour_zeros]; exact hc), colour_zeros, zeros_drop, m]
          exact ih _ _ (by rw [List.length_drop]; omega)
      · rw [runs_one _ _ _ hx, runs_one _ _ _ (by rw [m]; exact hx), m]
        exact ih _ _ hl
/-- The numbers as they are meant. -/
def meantOf (l : List Int) : List Int := if l = [] then [0] else zeros l
theorem apply_meant (a : Look) (l : List Int) : applyOf a l = runs a (meantOf l) := by
  unfold applyOf meantOf
  by_cases h : l = []
  · rw [if_pos h, if_pos h, runs_one _ _ _ (by decide), runs_nil]; rfl
  · rw [if_neg h, if_neg h, runs_zeros l.length l a (Nat.le_refl _)]
theorem colour_used (l : List Int) : (colourOf l).2 = 0 ∨ ((colourOf l).2 = 2 ∧ 2 ≤ l.length) ∨ ((colourOf l).2 = 4 ∧ 4 ≤ l.length) := by
  unfold colourOf
  split
  · rename_i h; exact .inr (.inl ⟨rfl, h.1⟩)
  split
  · rename_i h; exact .inr (.inr ⟨rfl, h.1⟩)
  exact .inl rfl

/-! ### the numbers that make an attribute -/
def digit (k : Nat) : Int := if k < 5 then k + 1 else k + 2
def bitAt (f : Int) (k : Nat) : Bool := decide (f / 2 ^ k % 2 = 1)
def flagsUpto (f : Int) : Nat → List Int
  | 0 => []
  | k + 1 => flagsUpto f k ++ (if bitAt f k = true then [digit k] else [])
def lineOf (a : Look) : List Int := 0 :: (flagsUpto a.flags 8 ++ (formOf a.fg 0 ++ formOf a.bg 10))
theorem flagsUpto_len (f : Int) : ∀ k, (flagsUpto f k).length ≤ k
  | 0 => by simp [flagsUpto]
  | k + 1 => by
    have := flagsUpto_len f k
    unfold flagsUpto
    rw [List.length_append]
    split <;> simp <;> omega
theorem formOf_len (c b : Int) : (formOf c b).length ≤ 5 := by
  unfold formOf
  repeat' split
  all_goals simp
theorem lineOf_len (a : Look) : (lineOf a).length ≤ 19 := by
  unfold lineOf
  have h1 := flagsUpto_len a.flags 8
  have h2 := formOf_len a.fg 0
  have h3 := formOf_len a.bg 10
  simp only [List.length_cons, List.length_append]; omega
/-- A number that stands by itself. -/
def Lone (n : Int) : Prop := 0 ≤ n ∧ n ≠ 38 ∧ n ≠ 48
theorem runs_lone : ∀ (s : List Int) (a : Look) (t : List Int), (∀ n ∈ s, Lone n) → runs a (s ++ t) = runs (s.foldl one a) t
  | [], _, _, _ => rfl
  | x :: s, a, t, h => by
    obtain ⟨h0, h1, h2⟩ := h x (by simp)
    have m : max 0 x = x := by omega
    rw [List.cons_append, runs_one _ _ _ (by rw [m]; omega), m, List.foldl_cons]
    exact runs_lone s (one a x) t fun n hn => h n (by simp [hn])
theorem digit_cases (k : Nat) (h : k < 8) : 1 ≤ digit k ∧ digit k ≤ 9 := by unfold digit; split <;> omega
theorem flagsUpto_lone (f : Int) : ∀ k, k ≤ 8 → ∀ n ∈ flagsUpto f k, 1 ≤ n ∧ n ≤ 9
  | 0, _, n, h => by simp [flagsUpto] at h
  | k + 1, hk, n, h => by
    unfold flagsUpto at h
    rcases List.mem_append.1 h with h | h
    · exact flagsUpto_lone f k (by omega) n h
    · split at h
      · obtain rfl : n = digit k := by simpa using h
        exact digit_cases k (by omega)
      · simp at h
theorem flags_make : ∀ f : Fin 256, ((flagsUpto (f.val : Int) 8).foldl one bare).fg = -1 ∧ ((flagsUpto (f.val : Int) 8).foldl one bare).bg = -1 ∧ ((flagsUpto (f.val : Int) 8).foldl one bare).flags = f.val := by decide +kernel
theorem look_eq {a b : Look} (h1 : a.fg = b.fg) (h2 : a.bg = b.bg) (h3 : a.flags = b.flags) : a = b := by cases a; cases b; simp_all
theorem runs_fg (a : Look) (c : Int) (t : List Int) (hc : -1 ≤ c ∧ c ≤ 16777471) (ha : a.fg = -1) : runs a (formOf c 0 ++ t) = runs ⟨c, a.bg, a.flags⟩ t := by
  unfold formOf
  split
  · obtain rfl : c = -1 := by omega
    rw [← ha]; rfl
  split
  · rw [List.cons_append, List.nil_append, runs_one _ _ _ (by omega)]
    have m : max 0 (30 + 0 + c) = 30 + c := by omega
    have e : one a (30 + c) = ⟨c, a.bg, a.flags⟩ := by
      unfold one
      rw [if_neg (by omega), if_neg (by omega), if_neg (by omega), if_neg (by omega), if_pos (by omega), show 30 + c - 30 = c by omega]
    rw [m, e]
  split
  · rw [List.cons_append, List.nil_append, runs_one _ _ _ (by omega)]
    have m : max 0 (82 + 0 + c) = 82 + c := by omega
    have e : one a (82 + c) = ⟨c, a.bg, a.flags⟩ := by
      unfold one
      rw [if_neg (by omega), if_neg (by omega), if_neg (by omega), if_neg (by omega), if_neg (by omega), if_pos (by omega), show 82 + c - 82 = c by omega]
    rw [m, e]
  split
  · have e : colourOf (5 :: c :: t) = (c, 2) := by
      unfold colourOf
      rw [if_pos ⟨by simp, rfl⟩]
      simp [List.getD]; omega
    show runs a (38 :: 5 :: c :: t) = _
    rw [runs_set _ _ _ (.inl rfl) (by rw [e]; simp), e]
    show runs (setc a 38 c) t = _
    unfold setc
    rw [if_neg (by omega), if_pos rfl]
  · have e : colourOf (2 :: (c - 256) / 65536 :: (c - 256) / 256 % 256 :: (c - 256) % 256 :: t) = (c, 4) := by
      unfold colourOf rgbOf
      rw [if_neg (by simp [List.getD]), if_pos ⟨by simp, rfl⟩]
      simp [List.getD]; omega
    show runs a (38 :: 2 :: (c - 256) / 65536 :: (c - 256) / 256 % 256 :: (c - 256) % 256 :: t) = _
    rw [runs_set _ _ _ (.inl rfl) (by rw [e]; simp), e]
    show runs (setc a 38 c) t = _
    unfold setc
    rw [if_neg (by omega), if_pos rfl]
theorem runs_bg (a : Look) (c : Int) (t : List Int) (hc : -1 ≤ c ∧ c ≤ 16777471) (ha : a.bg = -1) : runs a (formOf c 10 ++ t) = runs ⟨a.fg, c, a.flags⟩ t := by
  unfold formOf
  split
  · obtain rfl : c = -1 := by omega
    rw [← ha]; rfl
  split
  · rw [List.cons_append, List.nil_append, runs_one _ _ _ (by omega)]
    have m : max 0 (30 + 10 + c) = 40 + c := by omega
    have e : one a (40 + c) = ⟨a.fg, c, a.flags⟩ := by
      unfold one
      rw [if_neg (by omega), if_neg (by omega), if_neg (by omega), if_neg (by omega), if_neg (by omega), if_neg (by omega), if_pos (by omega), show 40 + c - 40 = c by omega]
    rw [m, e]
  split
  · rw [List.cons_append, List.nil_append, runs_one _ _ _ (by omega)]
    have m : max 0 (82 + 10 + c) = 92 + c := by omega
    have e : one a (92 + c) = ⟨a.fg, c, a.flags⟩ := by
      unfold one
      rw [if_neg (by omega), if_neg (by omega), if_neg (by omega), if_neg (by omega), if_neg (by omega), if_neg (by omega), if_neg (by omega), if_pos (by omega), show 92 + c - 92 = c by omega]
    rw [m, e]
  split
  · have e : colourOf (5 :: c :: t) = (c, 2) := by
      unfold colourOf
      rw [if_pos ⟨by simp, rfl⟩]
      simp [List.getD]; omega
    show runs a (48 :: 5 :: c :: t) = _
    rw [runs_set _ _ _ (.inr rfl) (by rw [e]; simp), e]
    show runs (setc a 48 c) t = _
    unfold setc
    rw [if_neg (by omega), if_neg (by decide)]
  · have e : colourOf (2 :: (c - 256) / 65536 :: (c - 256) / 256 % 256 :: (c - 256) % 256 :: t) = (c, 4) := by
      unfold colourOf rgbOf
      rw [if_neg (by simp [List.getD]), if_pos ⟨by simp, rfl⟩]
      simp [List.getD]; omega
    show runs a (48 :: 2 :: (c - 256) / 65536 :: (c - 256) / 256 % 256 :: (c - 256) % 256 :: t) = _
    rw [runs_set _ _ _ (.inr rfl) (by rw [e]; simp), e]
    show runs (setc a 48 c) t = _
    unfold setc
    rw [if_neg (by omega), if_neg (by decide)]
/-- P4.3. -/
theorem apply_line (b a : Look) (h : attrOk a = true) : applyOf b (lineOf a) = a := by
  have hf := attr_byt h
  unfold attrOk colourOk rng at h
  simp only [Bool.and_eq_true, decide_eq_true_eq] at h
  obtain ⟨g, hg⟩ := hf.fin
  unfold applyOf lineOf
  rw [if_neg (by simp), runs_one _ _ _ (by decide)]
  rw [runs_lone _ _ _ fun n hn => by
    have := flagsUpto_lone a.flags 8 (by omega) n hn
    exact ⟨by omega, by omega, by omega⟩]
  obtain ⟨m1, m2, m3⟩ := flags_make g
  have e : List.foldl one (one b (max 0 0)) (flagsUpto a.flags 8) = ⟨-1, -1, a.flags⟩ := by
    show List.foldl one bare _ = _
    rw [hg]
    exact look_eq m1 m2 m3
  rw [e, runs_fg _ _ _ (by omega) rfl, ← List.append_nil (formOf a.bg 10), runs_bg _ _ _ (by omega) rfl, runs_nil]
theorem formOf_ok (c b : Int) (hc : -1 ≤ c ∧ c ≤ 16777471) (hb : b = 0 ∨ b = 10) : ∀ n ∈ formOf c b, -1 ≤ n ∧ n ≤ 9999 := by
  intro n hn
  unfold formOf at hn
  repeat' split at hn
  all_goals simp at hn
  all_goals omega
theorem lineOf_ok (a : Look) (h : attrOk a = true) : paramsOk (lineOf a) = true := by
  unfold attrOk colourOk rng at h
  simp only [Bool.and_eq_true, decide_eq_true_eq] at h
  unfold paramsOk
  rw [List.all_eq_true]
  intro n hn
  unfold rng
  simp only [Bool.and_eq_true, decide_eq_true_eq]
  unfold lineOf at hn
  rcases List.mem_cons.1 hn with rfl | hn
  · exact ⟨by decide, by decide⟩
  rcases List.mem_append.1 hn with hn | hn
  · have := flagsUpto_lone a.flags 8 (by omega) n hn; omega
  rcases List.mem_append.1 hn with hn | hn
  · exact formOf_ok a.fg 0 (by omega) (.inl rfl) n hn
  · exact formOf_ok a.bg 10 (by omega) (.inr rfl) n hn

/-! ### orders -/
inductive Ord where
  | void | plain | on (f : Int) | off (f : Int) | front (c : Int) | back (c : Int)
def obeyOf (a : Look) : Ord → Look
  | .void => a
  | .plain => bare
  | .on f => ⟨a.fg, a.bg, addFlag a.flags f⟩
  | .off f => ⟨a.fg, a.bg, subFlag a.flags f⟩
  | .front c => ⟨c, a.bg, a.flags⟩
  | .back c => ⟨a.fg, c, a.flags⟩
def behindOf : Ord → Ord
  | .front c => .back c
  | o => o
def shortOf (n : Int) : Ord := if 30 ≤ n ∧ n ≤ 37 then .front (n - 30) else if n = 39 then .front (-1) else if 90 ≤ n ∧ n ≤ 97 then .front (n - 82) else .void
def aloneOf (n : Int) : Ord :=
  if n = 0 then .plain else if n ≤ 9 then .on (flagOf n) else if n = 22 then .off 3 else if 23 ≤ n ∧ n ≤ 29 then .off (flagOf (n - 20))
  else if (30 ≤ n ∧ n ≤ 37) ∨ n = 39 ∨ (90 ≤ n ∧ n ≤ 97) then shortOf n else behindOf (shortOf (n - 10))
def longOf (l : List Int) : Ord × List Int := (if (colourOf l).1 < 0 then .void else .front (colourOf l).1, if (colourOf l).2 = 0 then [] else l.drop (colourOf l).2.toNat)
def readOf : List Int → Ord × List Int
  | [] => (.void, [])
  | x :: l => if x = 38 then longOf l else if x = 48 then (behindOf (longOf l).1, (longOf l).2) else (aloneOf x, l)
theorem readOf_cons (x : Int) (l : List Int) : readOf (x :: l) = if x = 38 then longOf l else if x = 48 then (behindOf (longOf l).1, (longOf l).2) else (aloneOf x, l) := rfl
theorem alone_one (a : Look) (n : Int) : obeyOf a (aloneOf n) = one a n := by
  unfold aloneOf one
  split
  · rfl
  split
  · rfl
  split
  · rfl
  split
  · rfl
  split
  · rename_i h
    unfold shortOf
    rcases h with h | h | h
    · rw [if_pos h, if_pos h]; rfl
    · rw [if_neg (by omega), if_pos h, if_neg (by omega), if_neg (by omega), if_neg (by omega), if_neg (by omega), if_pos h]; rfl
    · rw [if_neg (by omega), if_neg (by omega), if_pos h, if_neg (by omega), if_pos h]; rfl
  · rename_i h
    rw [if_neg (by omega), if_neg (by omega)]
    unfold shortOf
    by_cases h1 : 40 ≤ n ∧ n ≤ 47
    · rw [if_pos (by omega), if_pos h1]
      show (⟨a.fg, n - 10 - 30, a.flags⟩ : Look) = _
      rw [show n - 10 - 30 = n - 40 by omega]
    by_cases h2 : n = 49
    · rw [if_neg (by omega), if_pos (by omega), if_neg (by omega), if_neg (by omega), if_neg (by omega), if_pos h2]; rfl
    by_cases h3 : 100 ≤ n ∧ n ≤ 107
    · rw [if_neg (by omega), if_neg (by omega), if_pos (by omega), if_neg (by omega), if_pos h3]
      show (⟨a.fg, n - 10 - 82, a.flags⟩ : Look) = _
      rw [show n - 10 - 82 = n - 92 by omega]
    rw [if_neg (by omega), if_neg (by omega), if_neg (by omega), if_neg h1, if_neg h3, if_neg (by omega), if_neg h2]; rfl
theorem runs_read (a : Look) (x : Int) (l : List Int) (h0 : 0 ≤ x) : runs a (x :: l) = runs (obeyOf a (readOf (x :: l)).1) (readOf (x :: l)).2 := by
  have m : max 0 x = x := by omega
  by_cases h : x = 38 ∨ x = 48
  · by_cases hc : (colourOf l).2 = 0
    · rw [runs_none _ _ _ (by rw [m]; exact h) hc]
      have hn : (colourOf l).1 = -1 := by
        unfold colourOf at hc ⊢
        split at hc
        · simp at hc
        split at hc
        · simp at hc
        · rw [if_neg (by assumption), if_neg (by assumption)]
      have e : longOf l = (.void, []) := by unfold longOf; rw [if_pos hc, if_pos (by omega)]
      rcases h with rfl | rfl
      · show a = runs (obeyOf a (longOf l).1) (longOf l).2
        rw [e]; exact (runs_nil a).symm
      · show a = runs (obeyOf a (behindOf (longOf l).1)) (longOf l).2
        rw [e]; exact (runs_nil a).symm
    · rw [runs_set _ _ _ (by rw [m]; exact h) hc, m]
      rcases h with rfl | rfl
      · show _ = runs (obeyOf a (longOf l).1) (longOf l).2
        unfold longOf setc
        simp only []
        rw [if_neg hc]
        split <;> rfl
      · show _ = runs (obeyOf a (behindOf (longOf l).1)) (longOf l).2
        unfold longOf setc
        simp only []
        rw [if_neg hc]
        split <;> rfl
  · rw [runs_one _ _ _ (by rw [m]; exact h), m]
    have e : readOf (x :: l) = (aloneOf x, l) := by
      rw [readOf_cons, if_neg (fun e => h (.inl e)), if_neg (fun e => h (.inr e))]
    rw [e, alone_one a x]
theorem read_len (x : Int) (l : List Int) : (readOf (x :: l)).2.length ≤ l.length := by
  have hl : (longOf l).2.length ≤ l.length := by
    unfold longOf
    simp only []
    split
    · simp
    · rw [List.length_drop]; omega
  rw [readOf_cons]
  repeat' split
  · exact hl
  · exact hl
  · exact Nat.le_refl _
theorem read_nonneg (x : Int) (l : List Int) (h : ∀ n ∈ l, 0 ≤ n) : ∀ n ∈ (readOf (x :: l)).2, 0 ≤ n := by
  have hl : ∀ n ∈ (longOf l).2, 0 ≤ n := by
    unfold longOf
    simp only []
    split
    · simp
    · exact fun n hn => h n (List.mem_of_mem_drop hn)
  rw [readOf_cons]
  repeat' split
  · exact hl
  · exact hl
  · exact h
end Sgr
end Go.Proofs.Ytabplmhmanbmjaa
