/- Cells of a row as plain data: which may be, which rows may be, how a row is cut and its cells replaced. No program stands in this text. -/
import Derived.Test.YthkfcfmnccfbnaaWidPlain
namespace Go.Proofs.Ythkfcfmnccfbnaa
namespace Row
open Utf Wid

/-- How a cell looks. -/
structure Look where
  fg : Int
  bg : Int
  flags : Int
structure Cl where
  rune : Int
  comb : List UInt8
  wide : Int
  a : Look
def rng (n lo hi : Int) : Bool := decide (lo ≤ n) && decide (n ≤ hi)
def colourOk (n : Int) : Bool := rng n (-1) 16777471
def attrOk (a : Look) : Bool := colourOk a.fg && colourOk a.bg && rng a.flags 0 255

/-! ### marks -/
def marksN : Nat → List UInt8 → Option Nat
  | 0, _ => some 0
  | n + 1, l => if l = [] then some 0 else if wid (dec l).1 = 0 then (marksN n (l.drop (dec l).2)).map (· + 1) else none
/-- How many runes a text has, if all of them are marks. -/
def marks (l : List UInt8) : Option Nat := marksN l.length l
theorem marksN_enough : ∀ (n : Nat) (l : List UInt8), l.length ≤ n → marksN n l = marksN l.length l
  | 0, l, h => by
    have : l = [] := List.eq_nil_of_length_eq_zero (by omega)
    subst this; rfl
  | n + 1, l, h => by
    by_cases hl : l = []
    · subst hl; simp [marksN]
    · have h1 := dec_pos hl
      have h2 : l.length ≠ 0 := fun e => hl (List.eq_nil_of_length_eq_zero e)
      obtain ⟨m, hm⟩ : ∃ m, l.length = m + 1 := ⟨l.length - 1, by omega⟩
      rw [hm]
      simp only [marksN, if_neg hl]
      rw [marksN_enough n _ (by rw [List.length_drop]; omega), marksN_enough m _ (by rw [List.length_drop]; omega)]
theorem marks_nil : marks [] = some 0 := rfl
theorem marks_step {l : List UInt8} (h : l ≠ []) : marks l = if wid (dec l).1 = 0 then (marks (l.drop (dec l).2)).map (· + 1) else none := by
  have h1 := dec_pos h
  have h2 : l.length ≠ 0 := fun e => h (List.eq_nil_of_length_eq_zero e)
  obtain ⟨m, hm⟩ : ∃ m, l.length = m + 1 := ⟨l.length - 1, by omega⟩
  unfold marks
  rw [hm]
  simp only [marksN, if_neg h]
  rw [marksN_enough m _ (by rw [List.length_drop]; omega)]
theorem marks_le : ∀ (k : Nat) (l : List UInt8) (n : Nat), l.length ≤ k → marks l = some n → n ≤ l.length
  | 0, l, n, h, hm => by
    have : l = [] := List.eq_nil_of_length_eq_zero (by omega)
    subst this; rw [marks_nil] at hm; injection hm with hm; omega
  | k + 1, l, n, h, hm => by
    by_cases hl : l = []
    · subst hl; rw [marks_nil] at hm; injection hm with hm; omega
    · rw [marks_step hl] at hm
      have h1 := dec_pos hl
      have h2 := dec_le hl
      by_cases hw : wid (dec l).1 = 0
      · rw [if_pos hw] at hm
        obtain ⟨m, hm', hmn⟩ := Option.map_eq_some_iff.1 hm
        have := marks_le k (l.drop (dec l).2) m (by rw [List.length_drop]; omega) hm'
        rw [List.length_drop] at this
        omega
      · rw [if_neg hw] at hm; cases hm
def combOk (l : List UInt8) : Bool := match marks l with
  | some n => decide (n ≤ 2)
  | none => false
theorem combOk_nil : combOk [] = true := rfl

/-! ### all runes of a text -/
def runesN : Nat → List UInt8 → List Int
  | 0, _ => []
  | n + 1, l => if l = [] then [] else ((dec l).1 : Int) :: runesN n (l.drop (dec l).2)
/-- The runes of a text, told twice: those that are all marks are as many. -/
theorem marks_runes : ∀ (n : Nat) (l : List UInt8), l.length ≤ n → marks l = if (runesN n l).all (fun r => decide (wid r = 0)) then some (runesN n l).length else none
  | 0, l, h => by
    have : l = [] := List.eq_nil_of_length_eq_zero (by omega)
    subst this; rfl
  | n + 1, l, h => by
    by_cases hl : l = []
    · subst hl; simp [runesN, marks_nil]
    · have h1 := dec_pos hl
      rw [marks_step hl]
      simp only [runesN, if_neg hl, List.all_cons, List.length_cons]
      rw [marks_runes n (l.drop (dec l).2) (by rw [List.length_drop]; omega)]
      by_cases hw : wid (dec l).1 = 0
      · rw [if_pos hw, decide_eq_true hw, Bool.true_and]
        split <;> rfl
      · rw [if_neg hw, decide_eq_false hw, Bool.false_and, if_neg (by simp)]

/-! ### cells -/
def sec (a : Look) : Cl := ⟨0, [], 2, a⟩
def blank (a : Look) : Cl := ⟨32, [], 0, ⟨-1, a.bg, 0⟩⟩
def isSec (c : Cl) : Bool := decide (c.rune = 0) && (decide (c.comb = []) && decide (c.wide = 2))
theorem isSec_iff (c : Cl) : isSec c = true ↔ c = sec c.a := by
  obtain ⟨r, m, x, a⟩ := c
  simp [isSec, sec]
/-- 1: a whole; 2: a first half; 3: a second one; 0: no cell that may be. -/
def kind (c : Cl) : Nat :=
  bif combOk c.comb && attrOk c.a then
    (bif decide (wid c.rune = 1) && decide (c.wide = 0) then 1 else bif decide (wid c.rune = 2) && decide (c.wide = 1) then 2 else bif isSec c then 3 else 0)
  else 0
theorem kind_attr {c : Cl} (h : kind c ≠ 0) : attrOk c.a = true := by
  unfold kind at h
  cases hb : combOk c.comb && attrOk c.a with
  | false => rw [hb] at h; exact absurd rfl h
  | true => exact (Bool.and_eq_true _ _ |>.mp hb).2
theorem kind_1 {c : Cl} (h : kind c = 1) : c.wide = 0 := by
  unfold kind at h
  cases h0 : combOk c.comb && attrOk c.a <;> rw [h0] at h <;> simp at h
  cases h1 : decide (wid c.rune = 1) && decide (c.wide = 0)
  · rw [h1] at h
    cases h2 : decide (wid c.rune = 2) && decide (c.wide = 1) <;> rw [h2] at h <;> simp at h
    cases h3 : isSec c <;> rw [h3] at h <;> simp at h
  · simp at h1; exact h1.2
theorem kind_2 {c : Cl} (h : kind c = 2) : c.wide = 1 := by
  unfold kind at h
  cases h0 : combOk c.comb && attrOk c.a <;> rw [h0] at h <;> simp at h
  cases h1 : decide (wid c.rune = 1) && decide (c.wide = 0) <;> rw [h1] at h <;> simp at h
  cases h2 : decide (wid c.rune = 2) && decide (c.wide = 1)
  · rw [h2] at h
    cases h3 : isSec c <;> rw [h3] at h <;> simp at h
  · simp at h2; exact h2.2
theorem kind_3 {c : Cl} (h : kind c = 3) : c = sec c.a := by
  unfold kind at h
  cases h0 : combOk c.comb && attrOk c.a <;> rw [h0] at h <;> simp at h
  cases h1 : decide (wid c.rune = 1) && decide (c.wide = 0) <;> rw [h1] at h <;> simp at h
  cases h2 : decide (wid c.rune = 2) && decide (c.wide = 1) <;> rw [h2] at h <;> simp at h
  cases h3 : isSec c <;> rw [h3] at h <;> simp at h
  exact (isSec_iff c).1 h3
theorem kind_3w {c : Cl} (h : kind c = 3) : c.wide = 2 := by rw [kind_3 h]; rfl
theorem kind_le (c : Cl) : kind c ≤ 3 := by
  unfold kind
  cases combOk c.comb && attrOk c.a <;> cases decide (wid c.rune = 1) && decide (c.wide = 0) <;> cases decide (wid c.rune = 2) && decide (c.wide = 1) <;> cases isSec c <;> decide
theorem kind_sec {a : Look} (h : attrOk a = true) : kind (sec a) = 3 := by
  have : kind (sec a) = bif true && attrOk a then 3 else 0 := rfl
  rw [this, h]; rfl
theorem attrOk_blank {a : Look} (h : attrOk a = true) : attrOk ⟨-1, a.bg, 0⟩ = true := by
  unfold attrOk at h ⊢
  simp only [Bool.and_eq_true] at h ⊢
  exact ⟨⟨rfl, h.1.2⟩, rfl⟩
theorem kind_blank {a : Look} (h : attrOk a = true) : kind (blank a) = 1 := by
  have : kind (blank a) = bif true && attrOk ⟨-1, a.bg, 0⟩ then 1 else 0 := rfl
  rw [this, attrOk_blank h]; rfl
theorem kind_whole {r : Int} {a : Look} (hr : wid r = 1) (h : attrOk a = true) : kind ⟨r, [], 0, a⟩ = 1 := by
  unfold kind
  simp [combOk_nil, h, hr]
theorem kind_first {r : Int} {a : Look} (hr : wid r = 2) (h : attrOk a = true) : kind ⟨r, [], 1, a⟩ = 2 := by
  unfold kind
  simp [combOk_nil, h, hr]

/-! ### rows -/
def dflt : Cl := ⟨0, [], 0, ⟨0, 0, 0⟩⟩
def g (l : List Cl) (i : Nat) : Cl := l.getD i dflt
theorem g_get {l : List Cl} {i : Nat} (h : i < l.length) : l[i]? = some (g l i) := by simp [g, h]
theorem g_eq {l : List Cl} {i : Nat} (h : i < l.length) : g l i = l[i] := by simp [g, h]
theorem ext_g {a b : List Cl} (hl : a.length = b.length) (h : ∀ i, i < a.length → g a i = g b i) : a = b := by
  apply List.ext_getElem hl
  intro i h1 h2
  have := h i h1
  rwa [g_eq h1, g_eq h2] at this
theorem g_append_left {a b : List Cl} {i : Nat} (h : i < a.length) : g (a ++ b) i = g a i := by
  simp [g, List.getElem?_append_left h]
theorem g_append_right {a b : List Cl} {i : Nat} (h : a.length ≤ i) : g (a ++ b) i = g b (i - a.length) := by
  simp [g, List.getElem?_append_right h]
theorem g_take {l : List Cl} {i p : Nat} (h : i < p) : g (l.take p) i = g l i := by simp [g, h]
theorem g_drop (l : List Cl) (i p : Nat) : g (l.drop p) i = g l (p + i) := by simp [g]
theorem g_set_same {l : List Cl} {i : Nat} (h : i < l.length) (c : Cl) : g (l.set i c) i = c := by simp [g, h]
theorem g_set_ne {l : List Cl} {i j : Nat} (h : i ≠ j) (c : Cl) : g (l.set i c) j = g l j := by simp [g, List.getElem?_set_ne h]

/-- What stands at i may stand there. -/
def okAt (l : List Cl) (i : Nat) : Prop :=
  kind (g l i) = 1 ∨ (kind (g l i) = 2 ∧ i + 1 < l.length ∧ g l (i + 1) = sec (g l i).a) ∨ (kind (g l i) = 3 ∧ 0 < i ∧ (g l (i - 1)).wide = 1)
def Good (l : List Cl) : Prop := ∀ i, i < l.length → okAt l i
def RowOk (l : List Cl) : Prop := 1 ≤ l.length ∧ l.length ≤ 40 ∧ Good l
/-- The same, as the page says it. -/
def refAt (l : List Cl) (i : Nat) : Prop :=
  kind (g l i) ≠ 0 ∧ ((g l i).wide = 1 → i + 1 < l.length ∧ (g l (i + 1)).wide = 2 ∧ (g l (i + 1)).a = (g l i).a) ∧ ((g l i).wide = 2 → 0 < i ∧ (g l (i - 1)).wide = 1)
theorem okAt_kind {l : List Cl} {i : Nat} (h : okAt l i) : kind (g l i) ≠ 0 := by
  rcases h with h | ⟨h, _⟩ | ⟨h, _⟩ <;> rw [h] <;> decide
theorem kind_of_wide1 {c : Cl} (h : kind c ≠ 0) (w : c.wide = 1) : kind c = 2 := by
  have := kind_le c
  rcases (by omega : kind c = 1 ∨ kind c = 2 ∨ kind c = 3) with e | e | e
  · have := kind_1 e; omega
  · exact e
  · have := kind_3w e; omega
theorem kind_of_wide2 {c : Cl} (h : kind c ≠ 0) (w : c.wide = 2) : kind c = 3 := by
  have := kind_le c
  rcases (by omega : kind c = 1 ∨ kind c = 2 ∨ kind c = 3) with e | e | e
  · have := kind_1 e; omega
  · have := kind_2 e; omega
  · exact e
theorem good_iff (l : List Cl) : Good l ↔ ∀ i, i < l.length → refAt l i := by
  constructor
  · intro h i hi
    have ho := h i hi
    refine ⟨okAt_kind ho, fun hw => ?_, fun hw => ?_⟩
    · have hk := kind_of_wide1 (okAt_kind ho) hw
      rcases ho with e | ⟨_, h1, h2⟩ | ⟨e, _⟩
      · omega
      · rw [h2]; exact ⟨h1, rfl, rfl⟩
      · omega
    · have hk := kind_of_wide2 (okAt_kind ho) hw
      rcases ho with e | ⟨e, _⟩ | ⟨_, h1, h2⟩
      · omega
      · omega
      · exact ⟨h1, h2⟩
  · intro h i hi
    obtain ⟨h0, h1, h2⟩ := h i hi
    have := kind_le (g l i)
    rcases (by omega : kind (g l i) = 1 ∨ kind (g l i) = 2 ∨ kind (g l i) = 3) with e | e | e
    · exact .inl e
    · obtain ⟨a, b, c⟩ := h1 (kind_2 e)
      refine .inr (.inl ⟨e, a, ?_⟩)
      rw [← c]
      exact kind_3 (kind_of_wide2 (h (i + 1) a).1 b)
    · exact .inr (.inr ⟨e, h2 (kind_3w e)⟩)
/-- The first half ahead of a second one. -/
theorem good_ahead {l : List Cl} (h : Good l) {i : Nat} (hi : i < l.length) (hk : kind (g l i) = 3) : 0 < i ∧ kind (g l (i - 1)) = 2 ∧ g l i = sec (g l (i - 1)).a := by
  rcases h i hi with e | ⟨e, _⟩ | ⟨_, h1, h2⟩
  · omega
  · omega
  · have hk1 := kind_of_wide1 (okAt_kind (h (i - 1) (by omega))) h2
    rcases h (i - 1) (by omega) with e | ⟨_, _, e⟩ | ⟨e, _⟩
    · omega
    · refine ⟨h1, hk1, ?_⟩
      rwa [show i - 1 + 1 = i from by omega] at e
    · omega

/-! ### cut -/
def cutL (l : List Cl) (p : Nat) : List Cl := if 0 < p ∧ p < l.length ∧ (g l p).wide = 2 then (l.set (p - 1) (blank (g l (p - 1)).a)).set p (blank (g l p).a) else l
theorem cutL_length (l : List Cl) (p : Nat) : (cutL l p).length = l.length := by
  unfold cutL; split <;> simp
theorem cutL_g (l : List Cl) (p i : Nat) : g (cutL l p) i = if 0 < p ∧ p < l.length ∧ (g l p).wide = 2 ∧ (i = p ∨ i = p - 1) then blank (g l i).a else g l i := by
  unfold cutL
  by_cases h : 0 < p ∧ p < l.length ∧ (g l p).wide = 2
  · rw [if_pos h]
    by_cases h1 : i = p
    · subst h1
      rw [if_pos ⟨h.1, h.2.1, h.2.2, .inl rfl⟩, g_set_same (by simp; omega)]
    · rw [g_set_ne (fun e => h1 e.symm)]
      by_cases h2 : i = p - 1
      · subst h2
        rw [if_pos ⟨h.1, h.2.1, h.2.2, .inr rfl⟩, g_set_same (by omega)]
      · rw [g_set_ne (fun e => h2 e.symm), if_neg (by omega)]
  · rw [if_neg h, if_neg (by omega)]
theorem good_cut {l : List Cl} (h : Good l) (p : Nat) : Good (cutL l p) := by
  intro i hi
  rw [cutL_length] at hi
  by_cases hc : 0 < p ∧ p < l.length ∧ (g l p).wide = 2
  · have hk := kind_of_wide2 (okAt_kind (h p hc.2.1)) hc.2.2
    obtain ⟨_, h2, h3⟩ := good_ahead h hc.2.1 hk
    by_cases h1 : i = p ∨ i = p - 1
    · left
      rw [cutL_g, if_pos ⟨hc.1, hc.2.1, hc.2.2, h1⟩]
      exact kind_blank (kind_attr (okAt_kind (h i hi)))
    · have hg : g (cutL l p) i = g l i := by rw [cutL_g, if_neg (by omega)]
      unfold okAt
      rw [hg, cutL_length]
      rcases h i hi with e | ⟨e, h4, h5⟩ | ⟨e, h4, h5⟩
      · exact .inl e
      · refine .inr (.inl ⟨e, h4, ?_⟩)
        rw [cutL_g, if_neg, h5]
        rintro ⟨_, _, _, e1 | e1⟩
        · omega
        · rw [e1] at h5; rw [h5] at h2; have := kind_2 h2; exact absurd (show (2 : Int) = 1 from this) (by decide)
      · refine .inr (.inr ⟨e, h4, ?_⟩)
        rw [cutL_g, if_neg, h5]
        rintro ⟨_, _, h6, e1 | e1⟩
        · rw [e1] at h5; omega
        · omega
  · have he : cutL l p = l := by unfold cutL; rw [if_neg hc]
    rw [he]; exact h i hi
/-- No pair lies across p. -/
def Bound (l : List Cl) (p : Nat) : Prop := p < l.length → 0 < p → (g l p).wide ≠ 2
theorem bound_cut (l : List Cl) (p : Nat) : Bound (cutL l p) p := by
  intro hp h0
  rw [cutL_length] at hp
  rw [cutL_g]
  split
  · exact (by decide : (0 : Int) ≠ 2)
  · intro e
    rename_i h
    exact h ⟨h0, hp, e, .inl rfl⟩
theorem bound_keep {l : List Cl} {q : Nat} (h : Bound l q) (p : Nat) : Bound (cutL l p) q := by
  intro hp h0
  rw [cutL_length] at hp
  rw [cutL_g]
  split
  · exact (by decide : (0 : Int) ≠ 2)
  · exact h hp h0
theorem good_take {l : List Cl} (h : Good l) {p : Nat} (hb : Bound l p) : Good (l.take p) := by
  intro i hi
  have hi1 : i < p ∧ i < l.length := by rw [List.length_take] at hi; omega
  unfold okAt
  rw [g_take hi1.1]
  rcases h i hi1.2 with e | ⟨e, h4, h5⟩ | ⟨e, h4, h5⟩
  · exact .inl e
  · have hne : i + 1 ≠ p := by
      intro e1
      have := hb (by omega) (by omega)
      rw [← e1, h5] at this
      exact this rfl
    refine .inr (.inl ⟨e, by rw [List.length_take]; omega, ?_⟩)
    rw [g_take (by omega)]; exact h5
  · refine .inr (.inr ⟨e, h4, ?_⟩)
    rw [g_take (by omega)]; exact h5
theorem good_drop {l : List Cl} (h : Good l) {p : Nat} (hb : Bound l p) : Good (l.drop p) := by
  intro i hi
  rw [List.length_drop] at hi
  unfold okAt
  rw [g_drop, g_drop, List.length_drop]
  rcases h (p + i) (by omega) with e | ⟨e, h4, h5⟩ | ⟨e, h4, h5⟩
  · exact .inl e
  · exact .inr (.inl ⟨e, by omega, h5⟩)
  · have hi0 : 0 < i := by
      rcases Nat.eq_zero_or_pos i with e0 | e0
      · subst e0
        have := hb (by omega) (by omega)
        exact absurd (kind_3w e) this
      · exact e0
    refine .inr (.inr ⟨e, hi0, ?_⟩)
    rw [g_drop, show p + (i - 1) = p + i - 1 from by omega]; exact h5
theorem good_append {a b : List Cl} (ha : Good a) (hb : Good b) : Good (a ++ b) := by
  intro i hi
  rw [List.length_append] at hi
  unfold okAt
  by_cases h : i < a.length
  · rw [g_append_left h, List.length_append]
    rcases ha i h with e | ⟨e, h4, h5⟩ | ⟨e, h4, h5⟩
    · exact .inl e
    · exact .inr (.inl ⟨e, by omega, by rw [g_append_left h4]; exact h5⟩)
    · exact .inr (.inr ⟨e, h4, by rw [g_append_left (by omega)]; exact h5⟩)
  · rw [g_append_right (by omega), List.length_append]
    rcases hb (i - a.length) (by omega) with e | ⟨e, h4, h5⟩ | ⟨e, h4, h5⟩
    · exact .inl e
    · exact .inr (.inl ⟨e, by omega, by rw [g_append_right (by omega), show i + 1 - a.length = i - a.length + 1 from by omega]; exact h5⟩)
    · exact .inr (.inr ⟨e, by omega, by rw [g_append_right (by omega), show i - 1 - a.length = i - a.length - 1 from by omega]; exact h5⟩)
theorem good_nil : Good [] := fun i hi => absurd hi (by simp)
theorem good_blanks {a : Look} (h : attrOk a = true) (n : Nat) : Good (List.replicate n (blank a)) := by
  intro i hi
  left
  rw [g_eq hi, List.getElem_replicate]
  exact kind_blank h

/-- x for what is from low to below high; pairs across the edges are mended. -/
def mid (l : List Cl) (low high : Nat) (x : List Cl) : List Cl := (cutL (cutL l low) high).take low ++ (x ++ (cutL (cutL l low) high).drop high)
def repl (l : List Cl) (low high : Nat) (x : List Cl) : List Cl := if low = high ∧ x = [] then l else mid l low high x
theorem mid_length {l : List Cl} {low high : Nat} (h1 : low ≤ high) (h2 : high ≤ l.length) (x : List Cl) : (mid l low high x).length + (high - low) = l.length + x.length := by
  unfold mid
  simp only [List.length_append, List.length_take, List.length_drop, cutL_length]
  omega
theorem good_mid {l : List Cl} (h : Good l) (low high : Nat) {x : List Cl} (hx : Good x) : Good (mid l low high x) := by
  have hg := good_cut (good_cut h low) high
  have hb1 : Bound (cutL (cutL l low) high) low := bound_keep (bound_cut l low) high
  have hb2 : Bound (cutL (cutL l low) high) high := bound_cut _ high
  exact good_append (good_take hg hb1) (good_append hx (good_drop hg hb2))
theorem good_repl {l : List Cl} (h : Good l) (low high : Nat) {x : List Cl} (hx : Good x) : Good (repl l low high x) := by
  unfold repl; split
  · exact h
  · exact good_mid h low high hx
theorem repl_length {l : List Cl} {low high : Nat} (h1 : low ≤ high) (h2 : high ≤ l.length) (x : List Cl) : (repl l low high x).length + (high - low) = l.length + x.length := by
  unfold repl; split
  · rename_i h; rw [h.1, h.2]; simp
  · exact mid_length h1 h2 x
/-- The cells of a rune. -/
def cellsOf (r : Int) (a : Look) : List Cl := if wid r = 1 then [⟨r, [], 0, a⟩] else [⟨r, [], 1, a⟩, sec a]
theorem good_cells {r : Int} {a : Look} (hr : wid r = 1 ∨ wid r = 2) (h : attrOk a = true) : Good (cellsOf r a) := by
  unfold cellsOf
  by_cases h1 : wid r = 1
  · rw [if_pos h1]
    intro i hi
    obtain rfl : i = 0 := by simpa using hi
    exact .inl (kind_whole h1 h)
  · rw [if_neg h1]
    have h2 : wid r = 2 := by omega
    intro i hi
    have : i = 0 ∨ i = 1 := by simp at hi; omega
    rcases this with rfl | rfl
    · exact .inr (.inl ⟨kind_first h2 h, by simp, rfl⟩)
    · exact .inr (.inr ⟨kind_sec h, by simp, rfl⟩)
theorem cells_length {r : Int} {a : Look} (hr : wid r = 1 ∨ wid r = 2) : ((cellsOf r a).length : Int) = wid r := by
  unfold cellsOf
  by_cases h1 : wid r = 1
  · rw [if_pos h1, h1]; rfl
  · rw [if_neg h1]; rcases hr with e | e
    · exact absurd e h1
    · rw [e]; rfl
theorem wid_cases (r : Int) : wid r = -1 ∨ wid r = 0 ∨ wid r = 1 ∨ wid r = 2 := by
  unfold wid
  cases isNone r <;> cases isMark r <;> cases isWide r <;> simp
/-- What is done to a row that may be, may be. -/
theorem putOk {l : List Cl} {r : Int} {a : Look} (h : RowOk l) (ha : attrOk a = true) (hr : wid r = 1 ∨ wid r = 2) {p : Nat} (hp : p + (cellsOf r a).length ≤ l.length) :
    RowOk (mid l p (p + (cellsOf r a).length) (cellsOf r a)) := by
  have := mid_length (l := l) (low := p) (high := p + (cellsOf r a).length) (by omega) hp (cellsOf r a)
  exact ⟨by have := h.1; omega, by have := h.2.1; omega, good_mid h.2.2 _ _ (good_cells hr ha)⟩
theorem eraseOk {l : List Cl} {a : Look} (h : RowOk l) (ha : attrOk a = true) {low high : Nat} (h1 : low ≤ high) (h2 : high ≤ l.length) :
    RowOk (repl l low high (List.replicate (high - low) (blank a))) := by
  have := repl_length h1 h2 (List.replicate (high - low) (blank a))
  rw [List.length_replicate] at this
  exact ⟨by have := h.1; omega, by have := h.2.1; omega, good_repl h.2.2 _ _ (good_blanks ha _)⟩
def insertOf (l : List Cl) (p n : Nat) (a : Look) : List Cl := repl (repl l (l.length - n) l.length []) p p (List.replicate n (blank a))
def deleteOf (l : List Cl) (p n : Nat) (a : Look) : List Cl := repl l p (p + n) [] ++ List.replicate n (blank a)
theorem insertOk {l : List Cl} {a : Look} (h : RowOk l) (ha : attrOk a = true) {p n : Nat} (hp : p + n ≤ l.length) : RowOk (insertOf l p n a) ∧ (insertOf l p n a).length = l.length := by
  have h1 := repl_length (l := l) (low := l.length - n) (high := l.length) (by omega) (Nat.le_refl _) []
  have h2 := repl_length (l := repl l (l.length - n) l.length []) (low := p) (high := p) (Nat.le_refl _) (by simp at h1; omega) (List.replicate n (blank a))
  rw [List.length_replicate] at h2
  have hl : (insertOf l p n a).length = l.length := by unfold insertOf; simp at h1; omega
  exact ⟨⟨by have := h.1; omega, by have := h.2.1; omega, good_repl (good_repl h.2.2 _ _ good_nil) _ _ (good_blanks ha _)⟩, hl⟩
theorem deleteOk {l : List Cl} {a : Look} (h : RowOk l) (ha : attrOk a = true) {p n : Nat} (hp : p + n ≤ l.length) : RowOk (deleteOf l p n a) ∧ (deleteOf l p n a).length = l.length := by
  have h1 := repl_length (l := l) (low := p) (high := p + n) (by omega) hp []
  have hl : (deleteOf l p n a).length = l.length := by unfold deleteOf; rw [List.length_append, List.length_replicate]; simp at h1; omega
  exact ⟨⟨by have := h.1; omega, by have := h.2.1; omega, good_append (good_repl h.2.2 _ _ good_nil) (good_blanks ha _)⟩, hl⟩
end Row
end Go.Proofs.Ythkfcfmnccfbnaa
