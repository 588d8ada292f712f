/- Joined texts: RowPlain, GrdPlain. -/
import Derived.Test.YtjcfbeiljdohcaaDoorJM1
namespace Go.Proofs.YtjcfbeiljdohcaaDoor
set_option maxRecDepth 100000
section
namespace Row
open Utf Wid
structure Look where
  fg : Int
  bg : Int
  flags : Int
structure Cl where
  rune : Int
  comb : List UInt8
  wide : Int
  a : Look
def rng (n lo hi : Int) : Bool := decide (lo ≤ n) && decide (n ≤ hi)
def colourOk (n : Int) : Bool := rng n (-1) 16777471
def attrOk (a : Look) : Bool := colourOk a.fg && colourOk a.bg && rng a.flags 0 255
def marksN : Nat → List UInt8 → Option Nat
  | 0, _ => some 0
  | n + 1, l => if l = [] then some 0 else if wid (dec l).1 = 0 then (marksN n (l.drop (dec l).2)).map (· + 1) else none
def marks (l : List UInt8) : Option Nat := marksN l.length l
theorem marksN_enough : ∀ (n : Nat) (l : List UInt8), l.length ≤ n → marksN n l = marksN l.length l
  | 0, l, h => by
    have : l = [] := List.eq_nil_of_length_eq_zero (by omega)
    subst this; rfl
  | n + 1, l, h => by
    by_cases hl : l = []
    · subst hl; simp [marksN]
    · have h1 := dec_pos hl
      have h2 : l.length ≠ 0 := fun e => hl (List.eq_nil_of_length_eq_zero e)
      obtain ⟨m, hm⟩ : ∃ m, l.length = m + 1 := ⟨l.length - 1, by omega⟩
      rw [hm]
      simp only [marksN, if_neg hl]
      rw [marksN_enough n _ (by rw [List.length_drop]; omega), marksN_enough m _ (by rw [List.length_drop]; omega)]
theorem marks_nil : marks [] = some 0 := rfl
theorem marks_step {l : List UInt8} (h : l ≠ []) : marks l = if wid (dec l).1 = 0 then (marks (l.drop (dec l).2)).map (· + 1) else none := by
  have h1 := dec_pos h
  have h2 : l.length ≠ 0 := fun e => h (List.eq_nil_of_length_eq_zero e)
  obtain ⟨m, hm⟩ : ∃ m, l.length = m + 1 := ⟨l.length - 1, by omega⟩
  unfold marks
  rw [hm]
  simp only [marksN, if_neg h]
  rw [marksN_enough m _ (by rw [List.length_drop]; omega)]
theorem marks_le : ∀ (k : Nat) (l : List UInt8) (n : Nat), l.length ≤ k → marks l = some n → n ≤ l.length
  | 0, l, n, h, hm => by
    have : l = [] := List.eq_nil_of_length_eq_zero (by omega)
    subst this; rw [marks_nil] at hm; injection hm with hm; omega
  | k + 1, l, n, h, hm => by
    by_cases hl : l = []
    · subst hl; rw [marks_nil] at hm; injection hm with hm; omega
    · rw [marks_step hl] at hm
      have h1 := dec_pos hl
      have h2 := dec_le hl
      by_cases hw : wid (dec l).1 = 0
      · rw [if_pos hw] at hm
        obtain ⟨m, hm', hmn⟩ := Option.map_eq_some_iff.1 hm
        have := marks_le k (l.drop (dec l).2) m (by rw [List.length_drop]; omega) hm'
        rw [List.length_drop] at this
        omega
      · rw [if_neg hw] at hm; cases hm
def combOk (l : List UInt8) : Bool := match marks l with
  | some n => decide (n ≤ 2)
  | none => false
theorem combOk_nil : combOk [] = true := rfl
def runesN : Nat → List UInt8 → List Int
  | 0, _ => []
  | n + 1, l => if l = [] then [] else ((dec l).1 : Int) :: runesN n (l.drop (dec l).2)
theorem marks_runes : ∀ (n : Nat) (l : List UInt8), l.length ≤ n → marks l = if (runesN n l).all (fun r => decide (wid r = 0)) then some (runesN n l).length else none
  | 0, l, h => by
    have : l = [] := List.eq_nil_of_length_eq_zero (by omega)
    subst this; rfl
  | n + 1, l, h => by
    by_cases hl : l = []
    · subst hl; simp [runesN, marks_nil]
    · have h1 := dec_pos hl
      rw [marks_step hl]
      simp only [runesN, if_neg hl, List.all_cons, List.length_cons]
      rw [marks_runes n (l.drop (dec l).2) (by rw [List.length_drop]; omega)]
      by_cases hw : wid (dec l).1 = 0
      · rw [if_pos hw, decide_eq_true hw, Bool.true_and]
        split <;> rfl
      · rw [if_neg hw, decide_eq_false hw, Bool.false_and, if_neg (by simp)]
def sec (a : Look) : Cl := ⟨0, [], 2, a⟩
def blank (a : Look) : Cl := ⟨32, [], 0, ⟨-1, a.bg, 0⟩⟩
def isSec (c : Cl) : Bool := decide (c.rune = 0) && (decide (c.comb = []) && decide (c.wide = 2))
theorem isSec_iff (c : Cl) : isSec c = true ↔ c = sec c.a := by
  obtain ⟨r, m, x, a⟩ := c
  simp [isSec, sec]
def kind (c : Cl) : Nat :=
  bif combOk c.comb && attrOk c.a then
    (bif decide (wid c.rune = 1) && decide (c.wide = 0) then 1 else bif decide (wid c.rune = 2) && decide (c.wide = 1) then 2 else bif isSec c then 3 else 0)
  else 0
theorem kind_attr {c : Cl} (h : kind c ≠ 0) : attrOk c.a = true := by
  unfold kind at h
  cases hb : combOk c.comb && attrOk c.a with
  | false => rw [hb] at h; exact absurd rfl h
  | true => exact (Bool.and_eq_true _ _ |>.mp hb).2
theorem kind_1 {c : Cl} (h : kind c = 1) : c.wide = 0 := by
  unfold kind at h
  cases h0 : combOk c.comb && attrOk c.a <;> rw [h0] at h <;> simp at h
  cases h1 : decide (wid c.rune = 1) && decide (c.wide = 0)
  · rw [h1] at h
    cases h2 : decide (wid c.rune = 2) && decide (c.wide = 1) <;> rw [h2] at h <;> simp at h
    cases h3 : isSec c <;> rw [h3] at h <;> simp at h
  · simp at h1; exact h1.2
theorem kind_2 {c : Cl} (h : kind c = 2) : c.wide = 1 := by
  unfold kind at h
  cases h0 : combOk c.comb && attrOk c.a <;> rw [h0] at h <;> simp at h
  cases h1 : decide (wid c.rune = 1) && decide (c.wide = 0) <;> rw [h1] at h <;> simp at h
  cases h2 : decide (wid c.rune = 2) && decide (c.wide = 1)
  · rw [h2] at h
    cases h3 : isSec c <;> rw [h3] at h <;> simp at h
  · simp at h2; exact h2.2
theorem kind_3 {c : Cl} (h : kind c = 3) : c = sec c.a := by
  unfold kind at h
  cases h0 : combOk c.comb && attrOk c.a <;> rw [h0] at h <;> simp at h
  cases h1 : decide (wid c.rune = 1) && decide (c.wide = 0) <;> rw [h1] at h <;> simp at h
  cases h2 : decide (wid c.rune = 2) && decide (c.wide = 1) <;> rw [h2] at h <;> simp at h
  cases h3 : isSec c <;> rw [h3] at h <;> simp at h
  exact (isSec_iff c).1 h3
theorem kind_3w {c : Cl} (h : kind c = 3) : c.wide = 2 := by rw [kind_3 h]; rfl
theorem kind_le (c : Cl) : kind c ≤ 3 := by
  unfold kind
  cases combOk c.comb && attrOk c.a <;> cases decide (wid c.rune = 1) && decide (c.wide = 0) <;> cases decide (wid c.rune = 2) && decide (c.wide = 1) <;> cases isSec c <;> decide
theorem kind_sec {a : Look} (h : attrOk a = true) : kind (sec a) = 3 := by
  have : kind (sec a) = bif true && attrOk a then 3 else 0 := rfl
  rw [this, h]; rfl
theorem attrOk_blank {a : Look} (h : attrOk a = true) : attrOk ⟨-1, a.bg, 0⟩ = true := by
  unfold attrOk at h ⊢
  simp only [Bool.and_eq_true] at h ⊢
  exact ⟨⟨rfl, h.1.2⟩, rfl⟩
theorem kind_blank {a : Look} (h : attrOk a = true) : kind (blank a) = 1 := by
  have : kind (blank a) = bif true && attrOk ⟨-1, a.bg, 0⟩ then 1 else 0 := rfl
  rw [this, attrOk_blank h]; rfl
theorem kind_whole {r : Int} {a : Look} (hr : wid r = 1) (h : attrOk a = true) : kind ⟨r, [], 0, a⟩ = 1 := by
  unfold kind
  simp [combOk_nil, h, hr]
theorem kind_first {r : Int} {a : Look} (hr : wid r = 2) (h : attrOk a = true) : kind ⟨r, [], 1, a⟩ = 2 := by
  unfold kind
  simp [combOk_nil, h, hr]
def dflt : Cl := ⟨0, [], 0, ⟨0, 0, 0⟩⟩
def g (l : List Cl) (i : Nat) : Cl := l.getD i dflt
theorem g_get {l : List Cl} {i : Nat} (h : i < l.length) : l[i]? = some (g l i) := by simp [g, h]
theorem g_eq {l : List Cl} {i : Nat} (h : i < l.length) : g l i = l[i] := by simp [g, h]
theorem ext_g {a b : List Cl} (hl : a.length = b.length) (h : ∀ i, i < a.length → g a i = g b i) : a = b := by
  apply List.ext_getElem hl
  intro i h1 h2
  have := h i h1
  rwa [g_eq h1, g_eq h2] at this
theorem g_append_left {a b : List Cl} {i : Nat} (h : i < a.length) : g (a ++ b) i = g a i := by
  simp [g, List.getElem?_append_left h]
theorem g_append_right {a b : List Cl} {i : Nat} (h : a.length ≤ i) : g (a ++ b) i = g b (i - a.length) := by
  simp [g, List.getElem?_append_right h]
theorem g_take {l : List Cl} {i p : Nat} (h : i < p) : g (l.take p) i = g l i := by simp [g, h]
theorem g_drop (l : List Cl) (i p : Nat) : g (l.drop p) i = g l (p + i) := by simp [g]
theorem g_set_same {l : List Cl} {i : Nat} (h : i < l.length) (c : Cl) : g (l.set i c) i = c := by simp [g, h]
theorem g_set_ne {l : List Cl} {i j : Nat} (h : i ≠ j) (c : Cl) : g (l.set i c) j = g l j := by simp [g, List.getElem?_set_ne h]
def okAt (l : List Cl) (i : Nat) : Prop :=
  kind (g l i) = 1 ∨ (kind (g l i) = 2 ∧ i + 1 < l.length ∧ g l (i + 1) = sec (g l i).a) ∨ (kind (g l i) = 3 ∧ 0 < i ∧ (g l (i - 1)).wide = 1)
def Good (l : List Cl) : Prop := ∀ i, i < l.length → okAt l i
def RowOk (l : List Cl) : Prop := 1 ≤ l.length ∧ l.length ≤ 40 ∧ Good l
def refAt (l : List Cl) (i : Nat) : Prop :=
  kind (g l i) ≠ 0 ∧ ((g l i).wide = 1 → i + 1 < l.length ∧ (g l (i + 1)).wide = 2 ∧ (g l (i + 1)).a = (g l i).a) ∧ ((g l i).wide = 2 → 0 < i ∧ (g l (i - 1)).wide = 1)
theorem okAt_kind {l : List Cl} {i : Nat} (h : okAt l i) : kind (g l i) ≠ 0 := by
  rcases h with h | ⟨h, _⟩ | ⟨h, _⟩ <;> rw [h] <;> decide
theorem kind_of_wide1 {c : Cl} (h : kind c ≠ 0) (w : c.wide = 1) : kind c = 2 := by
  have := kind_le c
  rcases (by omega : kind c = 1 ∨ kind c = 2 ∨ kind c = 3) with e | e | e
  · have := kind_1 e; omega
  · exact e
  · have := kind_3w e; omega
theorem kind_of_wide2 {c : Cl} (h : kind c ≠ 0) (w : c.wide = 2) : kind c = 3 := by
  have := kind_le c
  rcases (by omega : kind c = 1 ∨ kind c = 2 ∨ kind c = 3) with e | e | e
  · have := kind_1 e; omega
  · have := kind_2 e; omega
  · exact e
theorem good_iff (l : List Cl) : Good l ↔ ∀ i, i < l.length → refAt l i := by
  constructor
  · intro h i hi
    have ho := h i hi
    refine ⟨okAt_kind ho, fun hw => ?_, fun hw => ?_⟩
    · have hk := kind_of_wide1 (okAt_kind ho) hw
      rcases ho with e | ⟨_, h1, h2⟩ | ⟨e, _⟩
      · omega
      · rw [h2]; exact ⟨h1, rfl, rfl⟩
      · omega
    · have hk := kind_of_wide2 (okAt_kind ho) hw
      rcases ho with e | ⟨e, _⟩ | ⟨_, h1, h2⟩
      · omega
      · omega
      · exact ⟨h1, h2⟩
  · intro h i hi
    obtain ⟨h0, h1, h2⟩ := h i hi
    have := kind_le (g l i)
    rcases (by omega : kind (g l i) = 1 ∨ kind (g l i) = 2 ∨ kind (g l i) = 3) with e | e | e
    · exact .inl e
    · obtain ⟨a, b, c⟩ := h1 (kind_2 e)
      refine .inr (.inl ⟨e, a, ?_⟩)
      rw [← c]
      exact kind_3 (kind_of_wide2 (h (i + 1) a).1 b)
    · exact .inr (.inr ⟨e, h2 (kind_3w e)⟩)
theorem good_ahead {l : List Cl} (h : Good l) {i : Nat} (hi : i < l.length) (hk : kind (g l i) = 3) : 0 < i ∧ kind (g l (i - 1)) = 2 ∧ g l i = sec (g l (i - 1)).a := by
  rcases h i hi with e | ⟨e, _⟩ | ⟨_, h1, h2⟩
  · omega
  · omega
  · have hk1 := kind_of_wide1 (okAt_kind (h (i - 1) (by omega))) h2
    rcases h (i - 1) (by omega) with e | ⟨_, _, e⟩ | ⟨e, _⟩
    · omega
    · refine ⟨h1, hk1, ?_⟩
      rwa [show i - 1 + 1 = i from by omega] at e
    · omega
def cutL (l : List Cl) (p : Nat) : List Cl := if 0 < p ∧ p < l.length ∧ (g l p).wide = 2 then (l.set (p - 1) (blank (g l (p - 1)).a)).set p (blank (g l p).a) else l
theorem cutL_length (l : List Cl) (p : Nat) : (cutL l p).length = l.length := by
  unfold cutL; split <;> simp
theorem cutL_g (l : List Cl) (p i : Nat) : g (cutL l p) i = if 0 < p ∧ p < l.length ∧ (g l p).wide = 2 ∧ (i = p ∨ i = p - 1) then blank (g l i).a else g l i := by
  unfold cutL
  by_cases h : 0 < p ∧ p < l.length ∧ (g l p).wide = 2
  · rw [if_pos h]
    by_cases h1 : i = p
    · subst h1
      rw [if_pos ⟨h.1, h.2.1, h.2.2, .inl rfl⟩, g_set_same (by simp; omega)]
    · rw [g_set_ne (fun e => h1 e.symm)]
      by_cases h2 : i = p - 1
      · subst h2
        rw [if_pos ⟨h.1, h.2.1, h.2.2, .inr rfl⟩, g_set_same (by omega)]
      · rw [g_set_ne (fun e => h2 e.symm), if_neg (by omega)]
  · rw [if_neg h, if_neg (by omega)]
theorem good_cut {l : List Cl} (h : Good l) (p : Nat) : Good (cutL l p) := by
  intro i hi
  rw [cutL_length] at hi
  by_cases hc : 0 < p ∧ p < l.length ∧ (g l p).wide = 2
  · have hk := kind_of_wide2 (okAt_kind (h p hc.2.1)) hc.2.2
    obtain ⟨_, h2, h3⟩ := good_ahead h hc.2.1 hk
    by_cases h1 : i = p ∨ i = p - 1
    · left
      rw [cutL_g, if_pos ⟨hc.1, hc.2.1, hc.2.2, h1⟩]
      exact kind_blank (kind_attr (okAt_kind (h i hi)))
    · have hg : g (cutL l p) i = g l i := by rw [cutL_g, if_neg (by omega)]
      unfold okAt
      rw [hg, cutL_length]
      rcases h i hi with e | ⟨e, h4, h5⟩ | ⟨e, h4, h5⟩
      · exact .inl e
      · refine .inr (.inl ⟨e, h4, ?_⟩)
        rw [cutL_g, if_neg, h5]
        rintro ⟨_, _, _, e1 | e1⟩
        · omega
        · rw [e1] at h5; rw [h5] at h2; have := kind_2 h2; exact absurd (show (2 : Int) = 1 from this) (by decide)
      · refine .inr (.inr ⟨e, h4, ?_⟩)
        rw [cutL_g, if_neg, h5]
        rintro ⟨_, _, h6, e1 | e1⟩
        · rw [e1] at h5; omega
        · omega
  · have he : cutL l p = l := by unfold cutL; rw [if_neg hc]
    rw [he]; exact h i hi
def Bound (l : List Cl) (p : Nat) : Prop := p < l.length → 0 < p → (g l p).wide ≠ 2
theorem bound_cut (l : List Cl) (p : Nat) : Bound (cutL l p) p := by
  intro hp h0
  rw [cutL_length] at hp
  rw [cutL_g]
  split
  · exact (by decide : (0 : Int) ≠ 2)
  · intro e
    rename_i h
    exact h ⟨h0, hp, e, .inl rfl⟩
theorem bound_keep {l : List Cl} {q : Nat} (h : Bound l q) (p : Nat) : Bound (cutL l p) q := by
  intro hp h0
  rw [cutL_length] at hp
  rw [cutL_g]
  split
  · exact (by decide : (0 : Int) ≠ 2)
  · exact h hp h0
theorem good_take {l : List Cl} (h : Good l) {p : Nat} (hb : Bound l p) : Good (l.take p) := by
  intro i hi
  have hi1 : i < p ∧ i < l.length := by rw [List.length_take] at hi; omega
  unfold okAt
  rw [g_take hi1.1]
  rcases h i hi1.2 with e | ⟨e, h4, h5⟩ | ⟨e, h4, h5⟩
  · exact .inl e
  · have hne : i + 1 ≠ p := by
      intro e1
      have := hb (by omega) (by omega)
      rw [← e1, h5] at this
      exact this rfl
    refine .inr (.inl ⟨e, by rw [List.length_take]; omega, ?_⟩)
    rw [g_take (by omega)]; exact h5
  · refine .inr (.inr ⟨e, h4, ?_⟩)
    rw [g_take (by omega)]; exact h5
theorem good_drop {l : List Cl} (h : Good l) {p : Nat} (hb : Bound l p) : Good (l.drop p) := by
  intro i hi
  rw [List.length_drop] at hi
  unfold okAt
  rw [g_drop, g_drop, List.length_drop]
  rcases h (p + i) (by omega) with e | ⟨e, h4, h5⟩ | ⟨e, h4, h5⟩
  · exact .inl e
  · exact .inr (.inl ⟨e, by omega, h5⟩)
  · have hi0 : 0 < i := by
      rcases Nat.eq_zero_or_pos i with e0 | e0
      · subst e0
        have := hb (by omega) (by omega)
        exact absurd (kind_3w e) this
      · exact e0
    refine .inr (.inr ⟨e, hi0, ?_⟩)
    rw [g_drop, show p + (i - 1) = p + i - 1 from by omega]; exact h5
theorem good_append {a b : List Cl} (ha : Good a) (hb : Good b) : Good (a ++ b) := by
  intro i hi
  rw [List.length_append] at hi
  unfold okAt
  by_cases h : i < a.length
  · rw [g_append_left h, List.length_append]
    rcases ha i h with e | ⟨e, h4, h5⟩ | ⟨e, h4, h5⟩
    · exact .inl e
    · exact .inr (.inl ⟨e, by omega, by rw [g_append_left h4]; exact h5⟩)
    · exact .inr (.inr ⟨e, h4, by rw [g_append_left (by omega)]; exact h5⟩)
  · rw [g_append_right (by omega), List.length_append]
    rcases hb (i - a.length) (by omega) with e | ⟨e, h4, h5⟩ | ⟨e, h4, h5⟩
    · exact .inl e
    · exact .inr (.inl ⟨e, by omega, by rw [g_append_right (by omega), show i + 1 - a.length = i - a.length + 1 from by omega]; exact h5⟩)
    · exact .inr (.inr ⟨e, by omega, by rw [g_append_right (by omega), show i - 1 - a.length = i - a.length - 1 from by omega]; exact h5⟩)
theorem good_nil : Good [] := fun i hi => absurd hi (by simp)
theorem good_blanks {a : Look} (h : attrOk a = true) (n : Nat) : Good (List.replicate n (blank a)) := by
  intro i hi
  left
  rw [g_eq hi, List.getElem_replicate]
  exact kind_blank h
def mid (l : List Cl) (low high : Nat) (x : List Cl) : List Cl := (cutL (cutL l low) high).take low ++ (x ++ (cutL (cutL l low) high).drop high)
def repl (l : List Cl) (low high : Nat) (x : List Cl) : List Cl := if low = high ∧ x = [] then l else mid l low high x
theorem mid_length {l : List Cl} {low high : Nat} (h1 : low ≤ high) (h2 : high ≤ l.length) (x : List Cl) : (mid l low high x).length + (high - low) = l.length + x.length := by
  unfold mid
  simp only [List.length_append, List.length_take, List.length_drop, cutL_length]
  omega
theorem good_mid {l : List Cl} (h : Good l) (low high : Nat) {x : List Cl} (hx : Good x) : Good (mid l low high x) := by
  have hg := good_cut (good_cut h low) high
  have hb1 : Bound (cutL (cutL l low) high) low := bound_keep (bound_cut l low) high
  have hb2 : Bound (cutL (cutL l low) high) high := bound_cut _ high
  exact good_append (good_take hg hb1) (good_append hx (good_drop hg hb2))
theorem good_repl {l : List Cl} (h : Good l) (low high : Nat) {x : List Cl} (hx : Good x) : Good (repl l low high x) := by
  unfold repl; split
  · exact h
  · exact good_mid h low high hx
theorem repl_length {l : List Cl} {low high : Nat} (h1 : low ≤ high) (h2 : high ≤ l.length) (x : List Cl) : (repl l low high x).length + (high - low) = l.length + x.length := by
  unfold repl; split
  · rename_i h; rw [h.1, h.2]; simp
  · exact mid_length h1 h2 x
def cellsOf (r : Int) (a : Look) : List Cl := if wid r = 1 then [⟨r, [], 0, a⟩] else [⟨r, [], 1, a⟩, sec a]
theorem good_cells {r : Int} {a : Look} (hr : wid r = 1 ∨ wid r = 2) (h : attrOk a = true) : Good (cellsOf r a) := by
  unfold cellsOf
  by_cases h1 : wid r = 1
  · rw [if_pos h1]
    intro i hi
    obtain rfl : i = 0 := by simpa using hi
    exact .inl (kind_whole h1 h)
  · rw [if_neg h1]
    have h2 : wid r = 2 := by omega
    intro i hi
    have : i = 0 ∨ i = 1 := by simp at hi; omega
    rcases this with rfl | rfl
    · exact .inr (.inl ⟨kind_first h2 h, by simp, rfl⟩)
    · exact .inr (.inr ⟨kind_sec h, by simp, rfl⟩)
theorem cells_length {r : Int} {a : Look} (hr : wid r = 1 ∨ wid r = 2) : ((cellsOf r a).length : Int) = wid r := by
  unfold cellsOf
  by_cases h1 : wid r = 1
  · rw [if_pos h1, h1]; rfl
  · rw [if_neg h1]; rcases hr with e | e
    · exact absurd e h1
    · rw [e]; rfl
theorem wid_cases (r : Int) : wid r = -1 ∨ wid r = 0 ∨ wid r = 1 ∨ wid r = 2 := by
  unfold wid
  cases isNone r <;> cases isMark r <;> cases isWide r <;> simp
theorem putOk {l : List Cl} {r : Int} {a : Look} (h : RowOk l) (ha : attrOk a = true) (hr : wid r = 1 ∨ wid r = 2) {p : Nat} (hp : p + (cellsOf r a).length ≤ l.length) :
    RowOk (mid l p (p + (cellsOf r a).length) (cellsOf r a)) := by
  have := mid_length (l := l) (low := p) (high := p + (cellsOf r a).length) (by omega) hp (cellsOf r a)
  exact ⟨by have := h.1; omega, by have := h.2.1; omega, good_mid h.2.2 _ _ (good_cells hr ha)⟩
theorem eraseOk {l : List Cl} {a : Look} (h : RowOk l) (ha : attrOk a = true) {low high : Nat} (h1 : low ≤ high) (h2 : high ≤ l.length) :
    RowOk (repl l low high (List.replicate (high - low) (blank a))) := by
  have := repl_length h1 h2 (List.replicate (high - low) (blank a))
  rw [List.length_replicate] at this
  exact ⟨by have := h.1; omega, by have := h.2.1; omega, good_repl h.2.2 _ _ (good_blanks ha _)⟩
def insertOf (l : List Cl) (p n : Nat) (a : Look) : List Cl := repl (repl l (l.length - n) l.length []) p p (List.replicate n (blank a))
def deleteOf (l : List Cl) (p n : Nat) (a : Look) : List Cl := repl l p (p + n) [] ++ List.replicate n (blank a)
theorem insertOk {l : List Cl} {a : Look} (h : RowOk l) (ha : attrOk a = true) {p n : Nat} (hp : p + n ≤ l.length) : RowOk (insertOf l p n a) ∧ (insertOf l p n a).length = l.length := by
  have h1 := repl_length (l := l) (low := l.length - n) (high := l.length) (by omega) (Nat.le_refl _) []
  have h2 := repl_length (l := repl l (l.length - n) l.length []) (low := p) (high := p) (Nat.le_refl _) (by simp at h1; omega) (List.replicate n (blank a))
  rw [List.length_replicate] at h2
  have hl : (insertOf l p n a).length = l.length := by unfold insertOf; simp at h1; omega
  exact ⟨⟨by have := h.1; omega, by have := h.2.1; omega, good_repl (good_repl h.2.2 _ _ good_nil) _ _ (good_blanks ha _)⟩, hl⟩
theorem deleteOk {l : List Cl} {a : Look} (h : RowOk l) (ha : attrOk a = true) {p n : Nat} (hp : p + n ≤ l.length) : RowOk (deleteOf l p n a) ∧ (deleteOf l p n a).length = l.length := by
  have h1 := repl_length (l := l) (low := p) (high := p + n) (by omega) hp []
  have hl : (deleteOf l p n a).length = l.length := by unfold deleteOf; rw [List.length_append, List.length_replicate]; simp at h1; omega
  exact ⟨⟨by have := h.1; omega, by have := h.2.1; omega, good_append (good_repl h.2.2 _ _ good_nil) (good_blanks ha _)⟩, hl⟩
end Row
end
section
namespace Row
structure Gr where
  rows : Int
  cols : Int
  cells : List Cl
def rowAt (l : List Cl) (c i : Nat) : List Cl := (l.drop (i * c)).take c
def GridOk (G : Gr) : Prop := (1 ≤ G.rows ∧ G.rows ≤ 40) ∧ (1 ≤ G.cols ∧ G.cols ≤ 40) ∧ (G.cells.length : Int) = G.rows * G.cols ∧ ∀ i : Nat, (i : Int) < G.rows → RowOk (rowAt G.cells G.cols.toNat i)
def Even (c : Nat) (rs : List (List Cl)) : Prop := ∀ r ∈ rs, r.length = c
theorem Even.tail {c : Nat} {r : List Cl} {rs : List (List Cl)} (h : Even c (r :: rs)) : Even c rs := fun x hx => h x (List.mem_cons_of_mem _ hx)
theorem Even.head {c : Nat} {r : List Cl} {rs : List (List Cl)} (h : Even c (r :: rs)) : r.length = c := h r (List.mem_cons_self ..)
theorem even_append {c : Nat} {a b : List (List Cl)} (ha : Even c a) (hb : Even c b) : Even c (a ++ b) := by
  intro r hr
  rcases List.mem_append.1 hr with h | h
  · exact ha r h
  · exact hb r h
theorem Even.take {c : Nat} {rs : List (List Cl)} (h : Even c rs) (k : Nat) : Even c (rs.take k) := fun r hr => h r (List.mem_of_mem_take hr)
theorem Even.drop {c : Nat} {rs : List (List Cl)} (h : Even c rs) (k : Nat) : Even c (rs.drop k) := fun r hr => h r (List.mem_of_mem_drop hr)
theorem even_length : ∀ {c : Nat} {rs : List (List Cl)}, Even c rs → rs.flatten.length = rs.length * c
  | c, [], _ => by simp
  | c, r :: rs, h => by
    rw [List.flatten_cons, List.length_append, even_length h.tail, h.head, List.length_cons, Nat.succ_mul, Nat.add_comm]
theorem take_flat : ∀ {c : Nat} {rs : List (List Cl)} (_ : Even c rs) (k : Nat), rs.flatten.take (k * c) = (rs.take k).flatten
  | c, [], _, k => by simp
  | c, r :: rs, h, 0 => by simp
  | c, r :: rs, h, k + 1 => by
    have hr := h.head
    rw [List.flatten_cons, List.take_succ_cons, List.flatten_cons, ← take_flat h.tail k, List.take_append, hr, Nat.succ_mul, Nat.add_sub_cancel, List.take_of_length_le (by omega)]
theorem drop_flat : ∀ {c : Nat} {rs : List (List Cl)} (_ : Even c rs) (k : Nat), rs.flatten.drop (k * c) = (rs.drop k).flatten
  | c, [], _, k => by simp
  | c, r :: rs, h, 0 => by simp
  | c, r :: rs, h, k + 1 => by
    have hr := h.head
    rw [List.flatten_cons, List.drop_succ_cons, ← drop_flat h.tail k, List.drop_append, hr, Nat.succ_mul, Nat.add_sub_cancel, List.drop_of_length_le (by omega), List.nil_append]
def rowOf (rs : List (List Cl)) (i : Nat) : List Cl := rs.getD i []
theorem rowOf_mem {rs : List (List Cl)} {i : Nat} (h : i < rs.length) : rowOf rs i ∈ rs := by
  unfold rowOf
  rw [List.getD_eq_getElem?_getD, List.getElem?_eq_getElem h]
  exact List.getElem_mem h
theorem rowAt_flat {c : Nat} {rs : List (List Cl)} (h : Even c rs) {i : Nat} (hi : i < rs.length) : rowAt rs.flatten c i = rowOf rs i := by
  unfold rowAt
  rw [drop_flat h, List.drop_eq_getElem_cons hi, List.flatten_cons]
  have hr : (rs[i]).length = c := h _ (List.getElem_mem hi)
  rw [List.take_left' hr]
  unfold rowOf
  rw [List.getD_eq_getElem?_getD, List.getElem?_eq_getElem hi]; rfl
def rowsOf (c : Nat) : Nat → List Cl → List (List Cl)
  | 0, _ => []
  | n + 1, l => l.take c :: rowsOf c n (l.drop c)
theorem rowsOf_length (c : Nat) : ∀ (n : Nat) (l : List Cl), (rowsOf c n l).length = n
  | 0, _ => rfl
  | n + 1, l => by rw [rowsOf, List.length_cons, rowsOf_length c n]
theorem rowsOf_flat (c : Nat) : ∀ (n : Nat) (l : List Cl), l.length = n * c → (rowsOf c n l).flatten = l
  | 0, l, h => by
    have : l = [] := List.eq_nil_of_length_eq_zero (by omega)
    subst this; rfl
  | n + 1, l, h => by
    rw [rowsOf, List.flatten_cons, rowsOf_flat c n (l.drop c) (by rw [List.length_drop, h, Nat.succ_mul, Nat.add_sub_cancel]), List.take_append_drop]
theorem rowsOf_even (c : Nat) : ∀ (n : Nat) (l : List Cl), l.length = n * c → Even c (rowsOf c n l)
  | 0, _, _ => fun r hr => by cases hr
  | n + 1, l, h => by
    intro r hr
    rw [rowsOf] at hr
    rcases List.mem_cons.1 hr with rfl | hr
    · rw [List.length_take, h, Nat.succ_mul]; omega
    · exact rowsOf_even c n (l.drop c) (by rw [List.length_drop, h, Nat.succ_mul, Nat.add_sub_cancel]) r hr
structure Rws (R C : Nat) (rs : List (List Cl)) : Prop where
  r1 : 1 ≤ R
  r40 : R ≤ 40
  c1 : 1 ≤ C
  c40 : C ≤ 40
  len : rs.length = R
  even : Even C rs
  ok : ∀ i, i < R → RowOk (rowOf rs i)
theorem Rws.grid {R C : Nat} {rs : List (List Cl)} (h : Rws R C rs) : GridOk ⟨R, C, rs.flatten⟩ := by
  refine ⟨⟨?_, ?_⟩, ⟨?_, ?_⟩, ?_, fun i hi => ?_⟩
  · have := h.r1; show (1 : Int) ≤ (R : Int); omega
  · have := h.r40; show (R : Int) ≤ 40; omega
  · have := h.c1; show (1 : Int) ≤ (C : Int); omega
  · have := h.c40; show (C : Int) ≤ 40; omega
  · show ((rs.flatten.length : Nat) : Int) = (R : Int) * (C : Int)
    rw [even_length h.even, h.len, Int.natCast_mul]
  · have hi : i < R := by have : (i : Int) < (R : Int) := hi; omega
    show RowOk (rowAt rs.flatten ((C : Int).toNat) i)
    rw [Int.toNat_natCast, rowAt_flat h.even (by rw [h.len]; exact hi)]
    exact h.ok i hi
theorem GridOk.parted {G : Gr} (h : GridOk G) : ∃ (R C : Nat) (rs : List (List Cl)), G = ⟨R, C, rs.flatten⟩ ∧ Rws R C rs := by
  obtain ⟨rows, cols, l⟩ := G
  obtain ⟨⟨h1, h2⟩, ⟨h3, h4⟩, hl, hr⟩ := h
  simp only at h1 h2 h3 h4 hl hr
  obtain ⟨R, rfl⟩ := Int.eq_ofNat_of_zero_le (show 0 ≤ rows by omega)
  obtain ⟨C, rfl⟩ := Int.eq_ofNat_of_zero_le (show 0 ≤ cols by omega)
  have hl : l.length = R * C := by rw [← Int.natCast_mul] at hl; omega
  have he := rowsOf_even C R l hl
  refine ⟨R, C, rowsOf C R l, by rw [rowsOf_flat C R l hl], by omega, by omega, by omega, by omega, rowsOf_length C R l, he, fun i hi => ?_⟩
  have := hr i (by omega)
  rw [Int.toNat_natCast] at this
  rw [← rowAt_flat he (by rw [rowsOf_length]; exact hi), rowsOf_flat C R l hl]
  exact this
theorem GridOk.iff_rows (G : Gr) : GridOk G ↔ ∃ (R C : Nat) (rs : List (List Cl)), G = ⟨R, C, rs.flatten⟩ ∧ Rws R C rs :=
  ⟨GridOk.parted, fun ⟨_, _, _, e, h⟩ => by subst e; exact h.grid⟩
theorem Rws.rlen {R C : Nat} {rs : List (List Cl)} (h : Rws R C rs) {i : Nat} (hi : i < R) : (rowOf rs i).length = C := h.even _ (rowOf_mem (by rw [h.len]; exact hi))
theorem Rws.small {R C : Nat} {rs : List (List Cl)} (h : Rws R C rs) : rs.flatten.length ≤ 1600 := by
  rw [even_length h.even, h.len]
  exact Nat.mul_le_mul h.r40 h.c40
theorem rows_ext {a b : List (List Cl)} (hl : a.length = b.length) (h : ∀ i, i < a.length → rowOf a i = rowOf b i) : a = b := by
  apply List.ext_getElem hl
  intro i h1 h2
  have := h i h1
  unfold rowOf at this
  rwa [List.getD_eq_getElem?_getD, List.getD_eq_getElem?_getD, List.getElem?_eq_getElem h1, List.getElem?_eq_getElem h2] at this
theorem rowOf_map {n : Nat} (f : Nat → List Cl) {i : Nat} (h : i < n) : rowOf ((List.range n).map f) i = f i := by
  simp [rowOf, h]
theorem even_of {c : Nat} {rs : List (List Cl)} (h : ∀ i, i < rs.length → (rowOf rs i).length = c) : Even c rs := by
  intro r hr
  obtain ⟨i, hi, rfl⟩ := List.getElem_of_mem hr
  have := h i hi
  unfold rowOf at this
  rwa [List.getD_eq_getElem?_getD, List.getElem?_eq_getElem hi] at this
def blankRow (c : Nat) (a : Look) : List Cl := List.replicate c (blank a)
theorem blankRow_length (c : Nat) (a : Look) : (blankRow c a).length = c := List.length_replicate
theorem blankRow_ok {c : Nat} {a : Look} (h1 : 1 ≤ c) (h2 : c ≤ 40) (ha : attrOk a = true) : RowOk (blankRow c a) := ⟨by rw [blankRow_length]; exact h1, by rw [blankRow_length]; exact h2, good_blanks ha c⟩
def news (r c : Nat) (a : Look) : List (List Cl) := List.replicate r (blankRow c a)
theorem news_flat (r c : Nat) (a : Look) : (news r c a).flatten = List.replicate (r * c) (blank a) := by
  unfold news blankRow
  rw [List.flatten_replicate_replicate]
theorem rowOf_news {r c i : Nat} {a : Look} (h : i < r) : rowOf (news r c a) i = blankRow c a := by simp [rowOf, news, h]
theorem news_rws {r c : Nat} {a : Look} (h1 : 1 ≤ r) (h2 : r ≤ 40) (h3 : 1 ≤ c) (h4 : c ≤ 40) (ha : attrOk a = true) : Rws r c (news r c a) := by
  refine ⟨h1, h2, h3, h4, List.length_replicate, fun x hx => ?_, fun i hi => ?_⟩
  · rw [(List.mem_replicate.1 hx).2]; exact blankRow_length c a
  · rw [rowOf_news hi]; exact blankRow_ok h3 h4 ha
theorem rowOf_set_same {rs : List (List Cl)} {i : Nat} (h : i < rs.length) (x : List Cl) : rowOf (rs.set i x) i = x := by simp [rowOf, h]
theorem rowOf_set_ne {rs : List (List Cl)} {i j : Nat} (h : i ≠ j) (x : List Cl) : rowOf (rs.set i x) j = rowOf rs j := by simp [rowOf, List.getElem?_set_ne h]
theorem set_rws {R C : Nat} {rs : List (List Cl)} (h : Rws R C rs) {i : Nat} (hi : i < R) {x : List Cl} (hx : RowOk x) (hl : x.length = C) : Rws R C (rs.set i x) := by
  refine ⟨h.r1, h.r40, h.c1, h.c40, by rw [List.length_set]; exact h.len, fun r hr => ?_, fun j hj => ?_⟩
  · rcases List.mem_or_eq_of_mem_set hr with hr | rfl
    · exact h.even r hr
    · exact hl
  · by_cases e : i = j
    · subst e; rw [rowOf_set_same (by rw [h.len]; exact hi)]; exact hx
    · rw [rowOf_set_ne e]; exact h.ok j hj
def movedRow (rs : List (List Cl)) (top bot : Nat) (n : Int) (c : Nat) (a : Look) (i : Nat) : List Cl :=
  if top ≤ i ∧ i ≤ bot then (if (i : Int) + n < top ∨ (bot : Int) < i + n then blankRow c a else rowOf rs ((i : Int) + n).toNat) else rowOf rs i
def moved (rs : List (List Cl)) (top bot : Nat) (n : Int) (c : Nat) (a : Look) : List (List Cl) := (List.range rs.length).map (movedRow rs top bot n c a)
theorem moved_rws {R C : Nat} {rs : List (List Cl)} (h : Rws R C rs) {top bot : Nat} (hb : bot < R) (n : Int) {a : Look} (ha : attrOk a = true) : Rws R C (moved rs top bot n C a) := by
  have key : ∀ i, i < R → RowOk (movedRow rs top bot n C a i) ∧ (movedRow rs top bot n C a i).length = C := by
    intro i hi
    unfold movedRow
    split
    · split
      · exact ⟨blankRow_ok h.c1 h.c40 ha, blankRow_length C a⟩
      · have : ((i : Int) + n).toNat < R := by omega
        exact ⟨h.ok _ this, h.rlen this⟩
    · exact ⟨h.ok _ hi, h.rlen hi⟩
  have hl : (moved rs top bot n C a).length = R := by unfold moved; rw [List.length_map, List.length_range, h.len]
  refine ⟨h.r1, h.r40, h.c1, h.c40, hl, even_of fun i hi => ?_, fun i hi => ?_⟩
  · rw [hl] at hi
    unfold moved; rw [rowOf_map _ (by rw [h.len]; exact hi)]; exact (key i hi).2
  · unfold moved; rw [rowOf_map _ (by rw [h.len]; exact hi)]; exact (key i hi).1
def mendEnd (l : List Cl) : List Cl := if l ≠ [] ∧ (g l (l.length - 1)).wide = 1 then l.set (l.length - 1) (blank (g l (l.length - 1)).a) else l
def fitRow (l : List Cl) (n : Nat) (a : Look) : List Cl := (if n < l.length then mendEnd (l.take n) else l) ++ List.replicate (n - l.length) (blank a)
def fitted (rs : List (List Cl)) (r c : Nat) (a : Look) : List (List Cl) := (List.range r).map fun i => if i < rs.length then fitRow (rowOf rs i) c a else blankRow c a
theorem mendEnd_length (l : List Cl) : (mendEnd l).length = l.length := by
  unfold mendEnd; split
  · rw [List.length_set]
  · rfl
theorem fitRow_length (l : List Cl) (n : Nat) (a : Look) : (fitRow l n a).length = n := by
  unfold fitRow
  rw [List.length_append, List.length_replicate]
  split
  · rw [mendEnd_length, List.length_take]; omega
  · omega
theorem okAt_of {l m : List Cl} {i : Nat} (h : okAt l i) (h0 : g m i = g l i) (h1 : kind (g l i) = 2 → i + 1 < m.length ∧ g m (i + 1) = g l (i + 1)) (h2 : kind (g l i) = 3 → (g m (i - 1)).wide = (g l (i - 1)).wide) : okAt m i := by
  unfold okAt at h ⊢
  rw [h0]
  rcases h with h | ⟨k, h3, h4⟩ | ⟨k, h3, h4⟩
  · exact .inl h
  · obtain ⟨h5, h6⟩ := h1 k
    exact .inr (.inl ⟨k, h5, by rw [h6]; exact h4⟩)
  · exact .inr (.inr ⟨k, h3, by rw [h2 k]; exact h4⟩)
theorem g_take_lt {l : List Cl} {n i : Nat} (h : i < n) : g (l.take n) i = g l i := g_take h
theorem mendEnd_good {l : List Cl} (h : Good l) {n : Nat} (hn : n < l.length) (h1 : 1 ≤ n) : Good (mendEnd (l.take n)) := by
  have hlen : (l.take n).length = n := by rw [List.length_take]; omega
  have hlast : g (l.take n) (n - 1) = g l (n - 1) := g_take (by omega)
  intro i hi
  rw [mendEnd_length, hlen] at hi
  have ho := h i (by omega)
  by_cases hw : (g l (n - 1)).wide = 1
  · have he : mendEnd (l.take n) = (l.take n).set (n - 1) (blank (g l (n - 1)).a) := by
      unfold mendEnd
      rw [hlen, hlast, if_pos ⟨by intro e; rw [e] at hlen; simp at hlen; omega, hw⟩]
    rw [he]
    by_cases e : i = n - 1
    · subst e
      refine .inl ?_
      rw [g_set_same (by omega)]
      exact kind_blank (kind_attr (okAt_kind ho))
    · have h0 : g ((l.take n).set (n - 1) (blank (g l (n - 1)).a)) i = g l i := by rw [g_set_ne (by omega), g_take hi]
      refine okAt_of ho h0 (fun k => ?_) (fun k => ?_)
      · by_cases e2 : i + 1 = n - 1
        · exfalso
          obtain ⟨_, h5⟩ : i + 1 < l.length ∧ g l (i + 1) = sec (g l i).a := by
            rcases ho with q | ⟨_, q1, q2⟩ | ⟨q, _⟩
            · omega
            · exact ⟨q1, q2⟩
            · omega
          rw [e2] at h5
          rw [h5] at hw
          exact absurd (show (2 : Int) = 1 from hw) (by decide)
        · refine ⟨by rw [List.length_set, hlen]; omega, ?_⟩
          rw [g_set_ne (by omega), g_take (by omega)]
      · rw [g_set_ne (by omega), g_take (by omega)]
  · have he : mendEnd (l.take n) = l.take n := by
      unfold mendEnd
      rw [hlen, hlast, if_neg (fun q => hw q.2)]
    rw [he]
    refine okAt_of ho (g_take hi) (fun k => ?_) (fun k => by rw [g_take (by omega)])
    have hin : i + 1 < n := by
      by_cases e : i = n - 1
      · subst e; exact absurd (kind_2 k) hw
      · omega
    exact ⟨by omega, g_take hin⟩
theorem fitRow_ok {l : List Cl} (h : RowOk l) {n : Nat} (h1 : 1 ≤ n) (h2 : n ≤ 40) {a : Look} (ha : attrOk a = true) : RowOk (fitRow l n a) := by
  refine ⟨by rw [fitRow_length]; exact h1, by rw [fitRow_length]; exact h2, ?_⟩
  unfold fitRow
  by_cases hn : n < l.length
  · rw [if_pos hn, Nat.sub_eq_zero_of_le (by omega), List.replicate_zero, List.append_nil]
    exact mendEnd_good h.2.2 hn h1
  · rw [if_neg hn]
    exact good_append h.2.2 (good_blanks ha _)
theorem fitted_rws {R C : Nat} {rs : List (List Cl)} (h : Rws R C rs) {r c : Nat} (h1 : 1 ≤ r) (h2 : r ≤ 40) (h3 : 1 ≤ c) (h4 : c ≤ 40) {a : Look} (ha : attrOk a = true) : Rws r c (fitted rs r c a) := by
  have hl : (fitted rs r c a).length = r := by unfold fitted; rw [List.length_map, List.length_range]
  refine ⟨h1, h2, h3, h4, hl, even_of fun i hi => ?_, fun i hi => ?_⟩
  · rw [hl] at hi
    unfold fitted; rw [rowOf_map _ hi]
    split
    · exact fitRow_length _ _ _
    · exact blankRow_length _ _
  · unfold fitted; rw [rowOf_map _ hi]
    split
    · rename_i q
      exact fitRow_ok (h.ok i (by rw [← h.len]; exact q)) h3 h4 ha
    · exact blankRow_ok h3 h4 ha
end Row
end
end Go.Proofs.YtjcfbeiljdohcaaDoor
