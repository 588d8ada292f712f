/- Joined texts: RowPlain, GrdPlain, RowBase, RowMem, RowHelp, GrdMem. -/
import Derived.Test.YtceaoadlhdgnmaaGreatDoorM1
namespace Go.Proofs.YtceaoadlhdgnmaaGreatDoor
set_option maxRecDepth 100000
section
namespace Row
open Utf Wid
structure Look where
  fg : Int
  bg : Int
  flags : Int
structure Cl where
  rune : Int
  comb : List UInt8
  wide : Int
  a : Look
def rng (n lo hi : Int) : Bool := decide (lo ≤ n) && decide (n ≤ hi)
def colourOk (n : Int) : Bool := rng n (-1) 16777471
def attrOk (a : Look) : Bool := colourOk a.fg && colourOk a.bg && rng a.flags 0 255
def marksN : Nat → List UInt8 → Option Nat
  | 0, _ => some 0
  | n + 1, l => if l = [] then some 0 else if wid (dec l).1 = 0 then (marksN n (l.drop (dec l).2)).map (· + 1) else none
def marks (l : List UInt8) : Option Nat := marksN l.length l
theorem marksN_enough : ∀ (n : Nat) (l : List UInt8), l.length ≤ n → marksN n l = marksN l.length l
  | 0, l, h => by
    have : l = [] := List.eq_nil_of_length_eq_zero (by omega)
    subst this; rfl
  | n + 1, l, h => by
    by_cases hl : l = []
    · subst hl; simp [marksN]
    · have h1 := dec_pos hl
      have h2 : l.length ≠ 0 := fun e => hl (List.eq_nil_of_length_eq_zero e)
      obtain ⟨m, hm⟩ : ∃ m, l.length = m + 1 := ⟨l.length - 1, by omega⟩
      rw [hm]
      simp only [marksN, if_neg hl]
      rw [marksN_enough n _ (by rw [List.length_drop]; omega), marksN_enough m _ (by rw [List.length_drop]; omega)]
theorem marks_nil : marks [] = some 0 := rfl
theorem marks_step {l : List UInt8} (h : l ≠ []) : marks l = if wid (dec l).1 = 0 then (marks (l.drop (dec l).2)).map (· + 1) else none := by
  have h1 := dec_pos h
  have h2 : l.length ≠ 0 := fun e => h (List.eq_nil_of_length_eq_zero e)
  obtain ⟨m, hm⟩ : ∃ m, l.length = m + 1 := ⟨l.length - 1, by omega⟩
  unfold marks
  rw [hm]
  simp only [marksN, if_neg h]
  rw [marksN_enough m _ (by rw [List.length_drop]; omega)]
theorem marks_le : ∀ (k : Nat) (l : List UInt8) (n : Nat), l.length ≤ k → marks l = some n → n ≤ l.length
  | 0, l, n, h, hm => by
    have : l = [] := List.eq_nil_of_length_eq_zero (by omega)
    subst this; rw [marks_nil] at hm; injection hm with hm; omega
  | k + 1, l, n, h, hm => by
    by_cases hl : l = []
    · subst hl; rw [marks_nil] at hm; injection hm with hm; omega
    · rw [marks_step hl] at hm
      have h1 := dec_pos hl
      have h2 := dec_le hl
      by_cases hw : wid (dec l).1 = 0
      · rw [if_pos hw] at hm
        obtain ⟨m, hm', hmn⟩ := Option.map_eq_some_iff.1 hm
        have := marks_le k (l.drop (dec l).2) m (by rw [List.length_drop]; omega) hm'
        rw [List.length_drop] at this
        omega
      · rw [if_neg hw] at hm; cases hm
def combOk (l : List UInt8) : Bool := match marks l with
  | some n => decide (n ≤ 2)
  | none => false
theorem combOk_nil : combOk [] = true := rfl
def runesN : Nat → List UInt8 → List Int
  | 0, _ => []
  | n + 1, l => if l = [] then [] else ((dec l).1 : Int) :: runesN n (l.drop (dec l).2)
theorem marks_runes : ∀ (n : Nat) (l : List UInt8), l.length ≤ n → marks l = if (runesN n l).all (fun r => decide (wid r = 0)) then some (runesN n l).length else none
  | 0, l, h => by
    have : l = [] := List.eq_nil_of_length_eq_zero (by omega)
    subst this; rfl
  | n + 1, l, h => by
    by_cases hl : l = []
    · subst hl; simp [runesN, marks_nil]
    · have h1 := dec_pos hl
      rw [marks_step hl]
      simp only [runesN, if_neg hl, List.all_cons, List.length_cons]
      rw [marks_runes n (l.drop (dec l).2) (by rw [List.length_drop]; omega)]
      by_cases hw : wid (dec l).1 = 0
      · rw [if_pos hw, decide_eq_true hw, Bool.true_and]
        split <;> rfl
      · rw [if_neg hw, decide_eq_false hw, Bool.false_and, if_neg (by simp)]
def sec (a : Look) : Cl := ⟨0, [], 2, a⟩
def blank (a : Look) : Cl := ⟨32, [], 0, ⟨-1, a.bg, 0⟩⟩
def isSec (c : Cl) : Bool := decide (c.rune = 0) && (decide (c.comb = []) && decide (c.wide = 2))
theorem isSec_iff (c : Cl) : isSec c = true ↔ c = sec c.a := by
  obtain ⟨r, m, x, a⟩ := c
  simp [isSec, sec]
def kind (c : Cl) : Nat :=
  bif combOk c.comb && attrOk c.a then
    (bif decide (wid c.rune = 1) && decide (c.wide = 0) then 1 else bif decide (wid c.rune = 2) && decide (c.wide = 1) then 2 else bif isSec c then 3 else 0)
  else 0
theorem kind_attr {c : Cl} (h : kind c ≠ 0) : attrOk c.a = true := by
  unfold kind at h
  cases hb : combOk c.comb && attrOk c.a with
  | false => rw [hb] at h; exact absurd rfl h
  | true => exact (Bool.and_eq_true _ _ |>.mp hb).2
theorem kind_1 {c : Cl} (h : kind c = 1) : c.wide = 0 := by
  unfold kind at h
  cases h0 : combOk c.comb && attrOk c.a <;> rw [h0] at h <;> simp at h
  cases h1 : decide (wid c.rune = 1) && decide (c.wide = 0)
  · rw [h1] at h
    cases h2 : decide (wid c.rune = 2) && decide (c.wide = 1) <;> rw [h2] at h <;> simp at h
    cases h3 : isSec c <;> rw [h3] at h <;> simp at h
  · simp at h1; exact h1.2
theorem kind_2 {c : Cl} (h : kind c = 2) : c.wide = 1 := by
  unfold kind at h
  cases h0 : combOk c.comb && attrOk c.a <;> rw [h0] at h <;> simp at h
  cases h1 : decide (wid c.rune = 1) && decide (c.wide = 0) <;> rw [h1] at h <;> simp at h
  cases h2 : decide (wid c.rune = 2) && decide (c.wide = 1)
  · rw [h2] at h
    cases h3 : isSec c <;> rw [h3] at h <;> simp at h
  · simp at h2; exact h2.2
theorem kind_3 {c : Cl} (h : kind c = 3) : c = sec c.a := by
  unfold kind at h
  cases h0 : combOk c.comb && attrOk c.a <;> rw [h0] at h <;> simp at h
  cases h1 : decide (wid c.rune = 1) && decide (c.wide = 0) <;> rw [h1] at h <;> simp at h
  cases h2 : decide (wid c.rune = 2) && decide (c.wide = 1) <;> rw [h2] at h <;> simp at h
  cases h3 : isSec c <;> rw [h3] at h <;> simp at h
  exact (isSec_iff c).1 h3
theorem kind_3w {c : Cl} (h : kind c = 3) : c.wide = 2 := by rw [kind_3 h]; rfl
theorem kind_le (c : Cl) : kind c ≤ 3 := by
  unfold kind
  cases combOk c.comb && attrOk c.a <;> cases decide (wid c.rune = 1) && decide (c.wide = 0) <;> cases decide (wid c.rune = 2) && decide (c.wide = 1) <;> cases isSec c <;> decide
theorem kind_sec {a : Look} (h : attrOk a = true) : kind (sec a) = 3 := by
  have : kind (sec a) = bif true && attrOk a then 3 else 0 := rfl
  rw [this, h]; rfl
theorem attrOk_blank {a : Look} (h : attrOk a = true) : attrOk ⟨-1, a.bg, 0⟩ = true := by
  unfold attrOk at h ⊢
  simp only [Bool.and_eq_true] at h ⊢
  exact ⟨⟨rfl, h.1.2⟩, rfl⟩
theorem kind_blank {a : Look} (h : attrOk a = true) : kind (blank a) = 1 := by
  have : kind (blank a) = bif true && attrOk ⟨-1, a.bg, 0⟩ then 1 else 0 := rfl
  rw [this, attrOk_blank h]; rfl
theorem kind_whole {r : Int} {a : Look} (hr : wid r = 1) (h : attrOk a = true) : kind ⟨r, [], 0, a⟩ = 1 := by
  unfold kind
  simp [combOk_nil, h, hr]
theorem kind_first {r : Int} {a : Look} (hr : wid r = 2) (h : attrOk a = true) : kind ⟨r, [], 1, a⟩ = 2 := by
  unfold kind
  simp [combOk_nil, h, hr]
def dflt : Cl := ⟨0, [], 0, ⟨0, 0, 0⟩⟩
def g (l : List Cl) (i : Nat) : Cl := l.getD i dflt
theorem g_get {l : List Cl} {i : Nat} (h : i < l.length) : l[i]? = some (g l i) := by simp [g, h]
theorem g_eq {l : List Cl} {i : Nat} (h : i < l.length) : g l i = l[i] := by simp [g, h]
theorem ext_g {a b : List Cl} (hl : a.length = b.length) (h : ∀ i, i < a.length → g a i = g b i) : a = b := by
  apply List.ext_getElem hl
  intro i h1 h2
  have := h i h1
  rwa [g_eq h1, g_eq h2] at this
theorem g_append_left {a b : List Cl} {i : Nat} (h : i < a.length) : g (a ++ b) i = g a i := by
  simp [g, List.getElem?_append_left h]
theorem g_append_right {a b : List Cl} {i : Nat} (h : a.length ≤ i) : g (a ++ b) i = g b (i - a.length) := by
  simp [g, List.getElem?_append_right h]
theorem g_take {l : List Cl} {i p : Nat} (h : i < p) : g (l.take p) i = g l i := by simp [g, h]
theorem g_drop (l : List Cl) (i p : Nat) : g (l.drop p) i = g l (p + i) := by simp [g]
theorem g_set_same {l : List Cl} {i : Nat} (h : i < l.length) (c : Cl) : g (l.set i c) i = c := by simp [g, h]
theorem g_set_ne {l : List Cl} {i j : Nat} (h : i ≠ j) (c : Cl) : g (l.set i c) j = g l j := by simp [g, List.getElem?_set_ne h]
def okAt (l : List Cl) (i : Nat) : Prop :=
  kind (g l i) = 1 ∨ (kind (g l i) = 2 ∧ i + 1 < l.length ∧ g l (i + 1) = sec (g l i).a) ∨ (kind (g l i) = 3 ∧ 0 < i ∧ (g l (i - 1)).wide = 1)
def Good (l : List Cl) : Prop := ∀ i, i < l.length → okAt l i
def RowOk (l : List Cl) : Prop := 1 ≤ l.length ∧ l.length ≤ 40 ∧ Good l
def refAt (l : List Cl) (i : Nat) : Prop :=
  kind (g l i) ≠ 0 ∧ ((g l i).wide = 1 → i + 1 < l.length ∧ (g l (i + 1)).wide = 2 ∧ (g l (i + 1)).a = (g l i).a) ∧ ((g l i).wide = 2 → 0 < i ∧ (g l (i - 1)).wide = 1)
theorem okAt_kind {l : List Cl} {i : Nat} (h : okAt l i) : kind (g l i) ≠ 0 := by
  rcases h with h | ⟨h, _⟩ | ⟨h, _⟩ <;> rw [h] <;> decide
theorem kind_of_wide1 {c : Cl} (h : kind c ≠ 0) (w : c.wide = 1) : kind c = 2 := by
  have := kind_le c
  rcases (by omega : kind c = 1 ∨ kind c = 2 ∨ kind c = 3) with e | e | e
  · have := kind_1 e; omega
  · exact e
  · have := kind_3w e; omega
theorem kind_of_wide2 {c : Cl} (h : kind c ≠ 0) (w : c.wide = 2) : kind c = 3 := by
  have := kind_le c
  rcases (by omega : kind c = 1 ∨ kind c = 2 ∨ kind c = 3) with e | e | e
  · have := kind_1 e; omega
  · have := kind_2 e; omega
  · exact e
theorem good_iff (l : List Cl) : Good l ↔ ∀ i, i < l.length → refAt l i := by
  constructor
  · intro h i hi
    have ho := h i hi
    refine ⟨okAt_kind ho, fun hw => ?_, fun hw => ?_⟩
    · have hk := kind_of_wide1 (okAt_kind ho) hw
      rcases ho with e | ⟨_, h1, h2⟩ | ⟨e, _⟩
      · omega
      · rw [h2]; exact ⟨h1, rfl, rfl⟩
      · omega
    · have hk := kind_of_wide2 (okAt_kind ho) hw
      rcases ho with e | ⟨e, _⟩ | ⟨_, h1, h2⟩
      · omega
      · omega
      · exact ⟨h1, h2⟩
  · intro h i hi
    obtain ⟨h0, h1, h2⟩ := h i hi
    have := kind_le (g l i)
    rcases (by omega : kind (g l i) = 1 ∨ kind (g l i) = 2 ∨ kind (g l i) = 3) with e | e | e
    · exact .inl e
    · obtain ⟨a, b, c⟩ := h1 (kind_2 e)
      refine .inr (.inl ⟨e, a, ?_⟩)
      rw [← c]
      exact kind_3 (kind_of_wide2 (h (i + 1) a).1 b)
    · exact .inr (.inr ⟨e, h2 (kind_3w e)⟩)
theorem good_ahead {l : List Cl} (h : Good l) {i : Nat} (hi : i < l.length) (hk : kind (g l i) = 3) : 0 < i ∧ kind (g l (i - 1)) = 2 ∧ g l i = sec (g l (i - 1)).a := by
  rcases h i hi with e | ⟨e, _⟩ | ⟨_, h1, h2⟩
  · omega
  · omega
  · have hk1 := kind_of_wide1 (okAt_kind (h (i - 1) (by omega))) h2
    rcases h (i - 1) (by omega) with e | ⟨_, _, e⟩ | ⟨e, _⟩
    · omega
    · refine ⟨h1, hk1, ?_⟩
      rwa [show i - 1 + 1 = i from by omega] at e
    · omega
def cutL (l : List Cl) (p : Nat) : List Cl := if 0 < p ∧ p < l.length ∧ (g l p).wide = 2 then (l.set (p - 1) (blank (g l (p - 1)).a)).set p (blank (g l p).a) else l
theorem cutL_length (l : List Cl) (p : Nat) : (cutL l p).length = l.length := by
  unfold cutL; split <;> simp
theorem cutL_g (l : List Cl) (p i : Nat) : g (cutL l p) i = if 0 < p ∧ p < l.length ∧ (g l p).wide = 2 ∧ (i = p ∨ i = p - 1) then blank (g l i).a else g l i := by
  unfold cutL
  by_cases h : 0 < p ∧ p < l.length ∧ (g l p).wide = 2
  · rw [if_pos h]
    by_cases h1 : i = p
    · subst h1
      rw [if_pos ⟨h.1, h.2.1, h.2.2, .inl rfl⟩, g_set_same (by simp; omega)]
    · rw [g_set_ne (fun e => h1 e.symm)]
      by_cases h2 : i = p - 1
      · subst h2
        rw [if_pos ⟨h.1, h.2.1, h.2.2, .inr rfl⟩, g_set_same (by omega)]
      · rw [g_set_ne (fun e => h2 e.symm), if_neg (by omega)]
  · rw [if_neg h, if_neg (by omega)]
theorem good_cut {l : List Cl} (h : Good l) (p : Nat) : Good (cutL l p) := by
  intro i hi
  rw [cutL_length] at hi
  by_cases hc : 0 < p ∧ p < l.length ∧ (g l p).wide = 2
  · have hk := kind_of_wide2 (okAt_kind (h p hc.2.1)) hc.2.2
    obtain ⟨_, h2, h3⟩ := good_ahead h hc.2.1 hk
    by_cases h1 : i = p ∨ i = p - 1
    · left
      rw [cutL_g, if_pos ⟨hc.1, hc.2.1, hc.2.2, h1⟩]
      exact kind_blank (kind_attr (okAt_kind (h i hi)))
    · have hg : g (cutL l p) i = g l i := by rw [cutL_g, if_neg (by omega)]
      unfold okAt
      rw [hg, cutL_length]
      rcases h i hi with e | ⟨e, h4, h5⟩ | ⟨e, h4, h5⟩
      · exact .inl e
      · refine .inr (.inl ⟨e, h4, ?_⟩)
        rw [cutL_g, if_neg, h5]
        rintro ⟨_, _, _, e1 | e1⟩
        · omega
        · rw [e1] at h5; rw [h5] at h2; have := kind_2 h2; exact absurd (show (2 : Int) = 1 from this) (by decide)
      · refine .inr (.inr ⟨e, h4, ?_⟩)
        rw [cutL_g, if_neg, h5]
        rintro ⟨_, _, h6, e1 | e1⟩
        · rw [e1] at h5; omega
        · omega
  · have he : cutL l p = l := by unfold cutL; rw [if_neg hc]
    rw [he]; exact h i hi
def Bound (l : List Cl) (p : Nat) : Prop := p < l.length → 0 < p → (g l p).wide ≠ 2
theorem bound_cut (l : List Cl) (p : Nat) : Bound (cutL l p) p := by
  intro hp h0
  rw [cutL_length] at hp
  rw [cutL_g]
  split
  · exact (by decide : (0 : Int) ≠ 2)
  · intro e
    rename_i h
    exact h ⟨h0, hp, e, .inl rfl⟩
theorem bound_keep {l : List Cl} {q : Nat} (h : Bound l q) (p : Nat) : Bound (cutL l p) q := by
  intro hp h0
  rw [cutL_length] at hp
  rw [cutL_g]
  split
  · exact (by decide : (0 : Int) ≠ 2)
  · exact h hp h0
theorem good_take {l : List Cl} (h : Good l) {p : Nat} (hb : Bound l p) : Good (l.take p) := by
  intro i hi
  have hi1 : i < p ∧ i < l.length := by rw [List.length_take] at hi; omega
  unfold okAt
  rw [g_take hi1.1]
  rcases h i hi1.2 with e | ⟨e, h4, h5⟩ | ⟨e, h4, h5⟩
  · exact .inl e
  · have hne : i + 1 ≠ p := by
      intro e1
      have := hb (by omega) (by omega)
      rw [← e1, h5] at this
      exact this rfl
    refine .inr (.inl ⟨e, by rw [List.length_take]; omega, ?_⟩)
    rw [g_take (by omega)]; exact h5
  · refine .inr (.inr ⟨e, h4, ?_⟩)
    rw [g_take (by omega)]; exact h5
theorem good_drop {l : List Cl} (h : Good l) {p : Nat} (hb : Bound l p) : Good (l.drop p) := by
  intro i hi
  rw [List.length_drop] at hi
  unfold okAt
  rw [g_drop, g_drop, List.length_drop]
  rcases h (p + i) (by omega) with e | ⟨e, h4, h5⟩ | ⟨e, h4, h5⟩
  · exact .inl e
  · exact .inr (.inl ⟨e, by omega, h5⟩)
  · have hi0 : 0 < i := by
      rcases Nat.eq_zero_or_pos i with e0 | e0
      · subst e0
        have := hb (by omega) (by omega)
        exact absurd (kind_3w e) this
      · exact e0
    refine .inr (.inr ⟨e, hi0, ?_⟩)
    rw [g_drop, show p + (i - 1) = p + i - 1 from by omega]; exact h5
theorem good_append {a b : List Cl} (ha : Good a) (hb : Good b) : Good (a ++ b) := by
  intro i hi
  rw [List.length_append] at hi
  unfold okAt
  by_cases h : i < a.length
  · rw [g_append_left h, List.length_append]
    rcases ha i h with e | ⟨e, h4, h5⟩ | ⟨e, h4, h5⟩
    · exact .inl e
    · exact .inr (.inl ⟨e, by omega, by rw [g_append_left h4]; exact h5⟩)
    · exact .inr (.inr ⟨e, h4, by rw [g_append_left (by omega)]; exact h5⟩)
  · rw [g_append_right (by omega), List.length_append]
    rcases hb (i - a.length) (by omega) with e | ⟨e, h4, h5⟩ | ⟨e, h4, h5⟩
    · exact .inl e
    · exact .inr (.inl ⟨e, by omega, by rw [g_append_right (by omega), show i + 1 - a.length = i - a.length + 1 from by omega]; exact h5⟩)
    · exact .inr (.inr ⟨e, by omega, by rw [g_append_right (by omega), show i - 1 - a.length = i - a.length - 1 from by omega]; exact h5⟩)
theorem good_nil : Good [] := fun i hi => absurd hi (by simp)
theorem good_blanks {a : Look} (h : attrOk a = true) (n : Nat) : Good (List.replicate n (blank a)) := by
  intro i hi
  left
  rw [g_eq hi, List.getElem_replicate]
  exact kind_blank h
def mid (l : List Cl) (low high : Nat) (x : List Cl) : List Cl := (cutL (cutL l low) high).take low ++ (x ++ (cutL (cutL l low) high).drop high)
def repl (l : List Cl) (low high : Nat) (x : List Cl) : List Cl := if low = high ∧ x = [] then l else mid l low high x
theorem mid_length {l : List Cl} {low high : Nat} (h1 : low ≤ high) (h2 : high ≤ l.length) (x : List Cl) : (mid l low high x).length + (high - low) = l.length + x.length := by
  unfold mid
  simp only [List.length_append, List.length_take, List.length_drop, cutL_length]
  omega
theorem good_mid {l : List Cl} (h : Good l) (low high : Nat) {x : List Cl} (hx : Good x) : Good (mid l low high x) := by
  have hg := good_cut (good_cut h low) high
  have hb1 : Bound (cutL (cutL l low) high) low := bound_keep (bound_cut l low) high
  have hb2 : Bound (cutL (cutL l low) high) high := bound_cut _ high
  exact good_append (good_take hg hb1) (good_append hx (good_drop hg hb2))
theorem good_repl {l : List Cl} (h : Good l) (low high : Nat) {x : List Cl} (hx : Good x) : Good (repl l low high x) := by
  unfold repl; split
  · exact h
  · exact good_mid h low high hx
theorem repl_length {l : List Cl} {low high : Nat} (h1 : low ≤ high) (h2 : high ≤ l.length) (x : List Cl) : (repl l low high x).length + (high - low) = l.length + x.length := by
  unfold repl; split
  · rename_i h; rw [h.1, h.2]; simp
  · exact mid_length h1 h2 x
def cellsOf (r : Int) (a : Look) : List Cl := if wid r = 1 then [⟨r, [], 0, a⟩] else [⟨r, [], 1, a⟩, sec a]
theorem good_cells {r : Int} {a : Look} (hr : wid r = 1 ∨ wid r = 2) (h : attrOk a = true) : Good (cellsOf r a) := by
  unfold cellsOf
  by_cases h1 : wid r = 1
  · rw [if_pos h1]
    intro i hi
    obtain rfl : i = 0 := by simpa using hi
    exact .inl (kind_whole h1 h)
  · rw [if_neg h1]
    have h2 : wid r = 2 := by omega
    intro i hi
    have : i = 0 ∨ i = 1 := by simp at hi; omega
    rcases this with rfl | rfl
    · exact .inr (.inl ⟨kind_first h2 h, by simp, rfl⟩)
    · exact .inr (.inr ⟨kind_sec h, by simp, rfl⟩)
theorem cells_length {r : Int} {a : Look} (hr : wid r = 1 ∨ wid r = 2) : ((cellsOf r a).length : Int) = wid r := by
  unfold cellsOf
  by_cases h1 : wid r = 1
  · rw [if_pos h1, h1]; rfl
  · rw [if_neg h1]; rcases hr with e | e
    · exact absurd e h1
    · rw [e]; rfl
theorem wid_cases (r : Int) : wid r = -1 ∨ wid r = 0 ∨ wid r = 1 ∨ wid r = 2 := by
  unfold wid
  cases isNone r <;> cases isMark r <;> cases isWide r <;> simp
theorem eraseOk {l : List Cl} {a : Look} (h : RowOk l) (ha : attrOk a = true) {low high : Nat} (h1 : low ≤ high) (h2 : high ≤ l.length) :
    RowOk (repl l low high (List.replicate (high - low) (blank a))) := by
  have := repl_length h1 h2 (List.replicate (high - low) (blank a))
  rw [List.length_replicate] at this
  exact ⟨by have := h.1; omega, by have := h.2.1; omega, good_repl h.2.2 _ _ (good_blanks ha _)⟩
def insertOf (l : List Cl) (p n : Nat) (a : Look) : List Cl := repl (repl l (l.length - n) l.length []) p p (List.replicate n (blank a))
def deleteOf (l : List Cl) (p n : Nat) (a : Look) : List Cl := repl l p (p + n) [] ++ List.replicate n (blank a)
theorem insertOk {l : List Cl} {a : Look} (h : RowOk l) (ha : attrOk a = true) {p n : Nat} (hp : p + n ≤ l.length) : RowOk (insertOf l p n a) ∧ (insertOf l p n a).length = l.length := by
  have h1 := repl_length (l := l) (low := l.length - n) (high := l.length) (by omega) (Nat.le_refl _) []
  have h2 := repl_length (l := repl l (l.length - n) l.length []) (low := p) (high := p) (Nat.le_refl _) (by simp at h1; omega) (List.replicate n (blank a))
  rw [List.length_replicate] at h2
  have hl : (insertOf l p n a).length = l.length := by unfold insertOf; simp at h1; omega
  exact ⟨⟨by have := h.1; omega, by have := h.2.1; omega, good_repl (good_repl h.2.2 _ _ good_nil) _ _ (good_blanks ha _)⟩, hl⟩
theorem deleteOk {l : List Cl} {a : Look} (h : RowOk l) (ha : attrOk a = true) {p n : Nat} (hp : p + n ≤ l.length) : RowOk (deleteOf l p n a) ∧ (deleteOf l p n a).length = l.length := by
  have h1 := repl_length (l := l) (low := p) (high := p + n) (by omega) hp []
  have hl : (deleteOf l p n a).length = l.length := by unfold deleteOf; rw [List.length_append, List.length_replicate]; simp at h1; omega
  exact ⟨⟨by have := h.1; omega, by have := h.2.1; omega, good_append (good_repl h.2.2 _ _ good_nil) (good_blanks ha _)⟩, hl⟩
end Row
end
section
namespace Row
structure Gr where
  rows : Int
  cols : Int
  cells : List Cl
def rowAt (l : List Cl) (c i : Nat) : List Cl := (l.drop (i * c)).take c
def GridOk (G : Gr) : Prop := (1 ≤ G.rows ∧ G.rows ≤ 40) ∧ (1 ≤ G.cols ∧ G.cols ≤ 40) ∧ (G.cells.length : Int) = G.rows * G.cols ∧ ∀ i : Nat, (i : Int) < G.rows → RowOk (rowAt G.cells G.cols.toNat i)
def Even (c : Nat) (rs : List (List Cl)) : Prop := ∀ r ∈ rs, r.length = c
theorem Even.tail {c : Nat} {r : List Cl} {rs : List (List Cl)} (h : Even c (r :: rs)) : Even c rs := fun x hx => h x (List.mem_cons_of_mem _ hx)
theorem Even.head {c : Nat} {r : List Cl} {rs : List (List Cl)} (h : Even c (r :: rs)) : r.length = c := h r (List.mem_cons_self ..)
theorem even_append {c : Nat} {a b : List (List Cl)} (ha : Even c a) (hb : Even c b) : Even c (a ++ b) := by
  intro r hr
  rcases List.mem_append.1 hr with h | h
  · exact ha r h
  · exact hb r h
theorem Even.take {c : Nat} {rs : List (List Cl)} (h : Even c rs) (k : Nat) : Even c (rs.take k) := fun r hr => h r (List.mem_of_mem_take hr)
theorem Even.drop {c : Nat} {rs : List (List Cl)} (h : Even c rs) (k : Nat) : Even c (rs.drop k) := fun r hr => h r (List.mem_of_mem_drop hr)
theorem even_length : ∀ {c : Nat} {rs : List (List Cl)}, Even c rs → rs.flatten.length = rs.length * c
  | c, [], _ => by simp
  | c, r :: rs, h => by
    rw [List.flatten_cons, List.length_append, even_length h.tail, h.head, List.length_cons, Nat.succ_mul, Nat.add_comm]
theorem take_flat : ∀ {c : Nat} {rs : List (List Cl)} (_ : Even c rs) (k : Nat), rs.flatten.take (k * c) = (rs.take k).flatten
  | c, [], _, k => by simp
  | c, r :: rs, h, 0 => by simp
  | c, r :: rs, h, k + 1 => by
    have hr := h.head
    rw [List.flatten_cons, List.take_succ_cons, List.flatten_cons, ← take_flat h.tail k, List.take_append, hr, Nat.succ_mul, Nat.add_sub_cancel, List.take_of_length_le (by omega)]
theorem drop_flat : ∀ {c : Nat} {rs : List (List Cl)} (_ : Even c rs) (k : Nat), rs.flatten.drop (k * c) = (rs.drop k).flatten
  | c, [], _, k => by simp
  | c, r :: rs, h, 0 => by simp
  | c, r :: rs, h, k + 1 => by
    have hr := h.head
    rw [List.flatten_cons, List.drop_succ_cons, ← drop_flat h.tail k, List.drop_append, hr, Nat.succ_mul, Nat.add_sub_cancel, List.drop_of_length_le (by omega), List.nil_append]
def rowOf (rs : List (List Cl)) (i : Nat) : List Cl := rs.getD i []
theorem rowOf_mem {rs : List (List Cl)} {i : Nat} (h : i < rs.length) : rowOf rs i ∈ rs := by
  unfold rowOf
  rw [List.getD_eq_getElem?_getD, List.getElem?_eq_getElem h]
  exact List.getElem_mem h
theorem rowAt_flat {c : Nat} {rs : List (List Cl)} (h : Even c rs) {i : Nat} (hi : i < rs.length) : rowAt rs.flatten c i = rowOf rs i := by
  unfold rowAt
  rw [drop_flat h, List.drop_eq_getElem_cons hi, List.flatten_cons]
  have hr : (rs[i]).length = c := h _ (List.getElem_mem hi)
  rw [List.take_left' hr]
  unfold rowOf
  rw [List.getD_eq_getElem?_getD, List.getElem?_eq_getElem hi]; rfl
def rowsOf (c : Nat) : Nat → List Cl → List (List Cl)
  | 0, _ => []
  | n + 1, l => l.take c :: rowsOf c n (l.drop c)
theorem rowsOf_length (c : Nat) : ∀ (n : Nat) (l : List Cl), (rowsOf c n l).length = n
  | 0, _ => rfl
  | n + 1, l => by rw [rowsOf, List.length_cons, rowsOf_length c n]
theorem rowsOf_flat (c : Nat) : ∀ (n : Nat) (l : List Cl), l.length = n * c → (rowsOf c n l).flatten = l
  | 0, l, h => by
    have : l = [] := List.eq_nil_of_length_eq_zero (by omega)
    subst this; rfl
  | n + 1, l, h => by
    rw [rowsOf, List.flatten_cons, rowsOf_flat c n (l.drop c) (by rw [List.length_drop, h, Nat.succ_mul, Nat.add_sub_cancel]), List.take_append_drop]
theorem rowsOf_even (c : Nat) : ∀ (n : Nat) (l : List Cl), l.length = n * c → Even c (rowsOf c n l)
  | 0, _, _ => fun r hr => by cases hr
  | n + 1, l, h => by
    intro r hr
    rw [rowsOf] at hr
    rcases List.mem_cons.1 hr with rfl | hr
    · rw [List.length_take, h, Nat.succ_mul]; omega
    · exact rowsOf_even c n (l.drop c) (by rw [List.length_drop, h, Nat.succ_mul, Nat.add_sub_cancel]) r hr
structure Rws (R C : Nat) (rs : List (List Cl)) : Prop where
  r1 : 1 ≤ R
  r40 : R ≤ 40
  c1 : 1 ≤ C
  c40 : C ≤ 40
  len : rs.length = R
  even : Even C rs
  ok : ∀ i, i < R → RowOk (rowOf rs i)
theorem Rws.grid {R C : Nat} {rs : List (List Cl)} (h : Rws R C rs) : GridOk ⟨R, C, rs.flatten⟩ := by
  refine ⟨⟨?_, ?_⟩, ⟨?_, ?_⟩, ?_, fun i hi => ?_⟩
  · have := h.r1; show (1 : Int) ≤ (R : Int); omega
  · have := h.r40; show (R : Int) ≤ 40; omega
  · have := h.c1; show (1 : Int) ≤ (C : Int); omega
  · have := h.c40; show (C : Int) ≤ 40; omega
  · show ((rs.flatten.length : Nat) : Int) = (R : Int) * (C : Int)
    rw [even_length h.even, h.len, Int.natCast_mul]
  · have hi : i < R := by have : (i : Int) < (R : Int) := hi; omega
    show RowOk (rowAt rs.flatten ((C : Int).toNat) i)
    rw [Int.toNat_natCast, rowAt_flat h.even (by rw [h.len]; exact hi)]
    exact h.ok i hi
theorem GridOk.parted {G : Gr} (h : GridOk G) : ∃ (R C : Nat) (rs : List (List Cl)), G = ⟨R, C, rs.flatten⟩ ∧ Rws R C rs := by
  obtain ⟨rows, cols, l⟩ := G
  obtain ⟨⟨h1, h2⟩, ⟨h3, h4⟩, hl, hr⟩ := h
  simp only at h1 h2 h3 h4 hl hr
  obtain ⟨R, rfl⟩ := Int.eq_ofNat_of_zero_le (show 0 ≤ rows by omega)
  obtain ⟨C, rfl⟩ := Int.eq_ofNat_of_zero_le (show 0 ≤ cols by omega)
  have hl : l.length = R * C := by rw [← Int.natCast_mul] at hl; omega
  have he := rowsOf_even C R l hl
  refine ⟨R, C, rowsOf C R l, by rw [rowsOf_flat C R l hl], by omega, by omega, by omega, by omega, rowsOf_length C R l, he, fun i hi => ?_⟩
  have := hr i (by omega)
  rw [Int.toNat_natCast] at this
  rw [← rowAt_flat he (by rw [rowsOf_length]; exact hi), rowsOf_flat C R l hl]
  exact this
theorem Rws.rlen {R C : Nat} {rs : List (List Cl)} (h : Rws R C rs) {i : Nat} (hi : i < R) : (rowOf rs i).length = C := h.even _ (rowOf_mem (by rw [h.len]; exact hi))
theorem Rws.small {R C : Nat} {rs : List (List Cl)} (h : Rws R C rs) : rs.flatten.length ≤ 1600 := by
  rw [even_length h.even, h.len]
  exact Nat.mul_le_mul h.r40 h.c40
theorem rows_ext {a b : List (List Cl)} (hl : a.length = b.length) (h : ∀ i, i < a.length → rowOf a i = rowOf b i) : a = b := by
  apply List.ext_getElem hl
  intro i h1 h2
  have := h i h1
  unfold rowOf at this
  rwa [List.getD_eq_getElem?_getD, List.getD_eq_getElem?_getD, List.getElem?_eq_getElem h1, List.getElem?_eq_getElem h2] at this
theorem rowOf_map {n : Nat} (f : Nat → List Cl) {i : Nat} (h : i < n) : rowOf ((List.range n).map f) i = f i := by
  simp [rowOf, h]
theorem even_of {c : Nat} {rs : List (List Cl)} (h : ∀ i, i < rs.length → (rowOf rs i).length = c) : Even c rs := by
  intro r hr
  obtain ⟨i, hi, rfl⟩ := List.getElem_of_mem hr
  have := h i hi
  unfold rowOf at this
  rwa [List.getD_eq_getElem?_getD, List.getElem?_eq_getElem hi] at this
def blankRow (c : Nat) (a : Look) : List Cl := List.replicate c (blank a)
theorem blankRow_length (c : Nat) (a : Look) : (blankRow c a).length = c := List.length_replicate
theorem blankRow_ok {c : Nat} {a : Look} (h1 : 1 ≤ c) (h2 : c ≤ 40) (ha : attrOk a = true) : RowOk (blankRow c a) := ⟨by rw [blankRow_length]; exact h1, by rw [blankRow_length]; exact h2, good_blanks ha c⟩
def news (r c : Nat) (a : Look) : List (List Cl) := List.replicate r (blankRow c a)
theorem news_flat (r c : Nat) (a : Look) : (news r c a).flatten = List.replicate (r * c) (blank a) := by
  unfold news blankRow
  rw [List.flatten_replicate_replicate]
theorem rowOf_news {r c i : Nat} {a : Look} (h : i < r) : rowOf (news r c a) i = blankRow c a := by simp [rowOf, news, h]
theorem news_rws {r c : Nat} {a : Look} (h1 : 1 ≤ r) (h2 : r ≤ 40) (h3 : 1 ≤ c) (h4 : c ≤ 40) (ha : attrOk a = true) : Rws r c (news r c a) := by
  refine ⟨h1, h2, h3, h4, List.length_replicate, fun x hx => ?_, fun i hi => ?_⟩
  · rw [(List.mem_replicate.1 hx).2]; exact blankRow_length c a
  · rw [rowOf_news hi]; exact blankRow_ok h3 h4 ha
theorem rowOf_set_same {rs : List (List Cl)} {i : Nat} (h : i < rs.length) (x : List Cl) : rowOf (rs.set i x) i = x := by simp [rowOf, h]
theorem rowOf_set_ne {rs : List (List Cl)} {i j : Nat} (h : i ≠ j) (x : List Cl) : rowOf (rs.set i x) j = rowOf rs j := by simp [rowOf, List.getElem?_set_ne h]
theorem set_rws {R C : Nat} {rs : List (List Cl)} (h : Rws R C rs) {i : Nat} (hi : i < R) {x : List Cl} (hx : RowOk x) (hl : x.length = C) : Rws R C (rs.set i x) := by
  refine ⟨h.r1, h.r40, h.c1, h.c40, by rw [List.length_set]; exact h.len, fun r hr => ?_, fun j hj => ?_⟩
  · rcases List.mem_or_eq_of_mem_set hr with hr | rfl
    · exact h.even r hr
    · exact hl
  · by_cases e : i = j
    · subst e; rw [rowOf_set_same (by rw [h.len]; exact hi)]; exact hx
    · rw [rowOf_set_ne e]; exact h.ok j hj
def movedRow (rs : List (List Cl)) (top bot : Nat) (n : Int) (c : Nat) (a : Look) (i : Nat) : List Cl :=
  if top ≤ i ∧ i ≤ bot then (if (i : Int) + n < top ∨ (bot : Int) < i + n then blankRow c a else rowOf rs ((i : Int) + n).toNat) else rowOf rs i
def moved (rs : List (List Cl)) (top bot : Nat) (n : Int) (c : Nat) (a : Look) : List (List Cl) := (List.range rs.length).map (movedRow rs top bot n c a)
theorem moved_rws {R C : Nat} {rs : List (List Cl)} (h : Rws R C rs) {top bot : Nat} (hb : bot < R) (n : Int) {a : Look} (ha : attrOk a = true) : Rws R C (moved rs top bot n C a) := by
  have key : ∀ i, i < R → RowOk (movedRow rs top bot n C a i) ∧ (movedRow rs top bot n C a i).length = C := by
    intro i hi
    unfold movedRow
    split
    · split
      · exact ⟨blankRow_ok h.c1 h.c40 ha, blankRow_length C a⟩
      · have : ((i : Int) + n).toNat < R := by omega
        exact ⟨h.ok _ this, h.rlen this⟩
    · exact ⟨h.ok _ hi, h.rlen hi⟩
  have hl : (moved rs top bot n C a).length = R := by unfold moved; rw [List.length_map, List.length_range, h.len]
  refine ⟨h.r1, h.r40, h.c1, h.c40, hl, even_of fun i hi => ?_, fun i hi => ?_⟩
  · rw [hl] at hi
    unfold moved; rw [rowOf_map _ (by rw [h.len]; exact hi)]; exact (key i hi).2
  · unfold moved; rw [rowOf_map _ (by rw [h.len]; exact hi)]; exact (key i hi).1
def mendEnd (l : List Cl) : List Cl := if l ≠ [] ∧ (g l (l.length - 1)).wide = 1 then l.set (l.length - 1) (blank (g l (l.length - 1)).a) else l
def fitRow (l : List Cl) (n : Nat) (a : Look) : List Cl := (if n < l.length then mendEnd (l.take n) else l) ++ List.replicate (n - l.length) (blank a)
def fitted (rs : List (List Cl)) (r c : Nat) (a : Look) : List (List Cl) := (List.range r).map fun i => if i < rs.length then fitRow (rowOf rs i) c a else blankRow c a
theorem mendEnd_length (l : List Cl) : (mendEnd l).length = l.length := by
  unfold mendEnd; split
  · rw [List.length_set]
  · rfl
theorem fitRow_length (l : List Cl) (n : Nat) (a : Look) : (fitRow l n a).length = n := by
  unfold fitRow
  rw [List.length_append, List.length_replicate]
  split
  · rw [mendEnd_length, List.length_take]; omega
  · omega
theorem okAt_of {l m : List Cl} {i : Nat} (h : okAt l i) (h0 : g m i = g l i) (h1 : kind (g l i) = 2 → i + 1 < m.length ∧ g m (i + 1) = g l (i + 1)) (h2 : kind (g l i) = 3 → (g m (i - 1)).wide = (g l (i - 1)).wide) : okAt m i := by
  unfold okAt at h ⊢
  rw [h0]
  rcases h with h | ⟨k, h3, h4⟩ | ⟨k, h3, h4⟩
  · exact .inl h
  · obtain ⟨h5, h6⟩ := h1 k
    exact .inr (.inl ⟨k, h5, by rw [h6]; exact h4⟩)
  · exact .inr (.inr ⟨k, h3, by rw [h2 k]; exact h4⟩)
theorem mendEnd_good {l : List Cl} (h : Good l) {n : Nat} (hn : n < l.length) (h1 : 1 ≤ n) : Good (mendEnd (l.take n)) := by
  have hlen : (l.take n).length = n := by rw [List.length_take]; omega
  have hlast : g (l.take n) (n - 1) = g l (n - 1) := g_take (by omega)
  intro i hi
  rw [mendEnd_length, hlen] at hi
  have ho := h i (by omega)
  by_cases hw : (g l (n - 1)).wide = 1
  · have he : mendEnd (l.take n) = (l.take n).set (n - 1) (blank (g l (n - 1)).a) := by
      unfold mendEnd
      rw [hlen, hlast, if_pos ⟨by intro e; rw [e] at hlen; simp at hlen; omega, hw⟩]
    rw [he]
    by_cases e : i = n - 1
    · subst e
      refine .inl ?_
      rw [g_set_same (by omega)]
      exact kind_blank (kind_attr (okAt_kind ho))
    · have h0 : g ((l.take n).set (n - 1) (blank (g l (n - 1)).a)) i = g l i := by rw [g_set_ne (by omega), g_take hi]
      refine okAt_of ho h0 (fun k => ?_) (fun k => ?_)
      · by_cases e2 : i + 1 = n - 1
        · exfalso
          obtain ⟨_, h5⟩ : i + 1 < l.length ∧ g l (i + 1) = sec (g l i).a := by
            rcases ho with q | ⟨_, q1, q2⟩ | ⟨q, _⟩
            · omega
            · exact ⟨q1, q2⟩
            · omega
          rw [e2] at h5
          rw [h5] at hw
          exact absurd (show (2 : Int) = 1 from hw) (by decide)
        · refine ⟨by rw [List.length_set, hlen]; omega, ?_⟩
          rw [g_set_ne (by omega), g_take (by omega)]
      · rw [g_set_ne (by omega), g_take (by omega)]
  · have he : mendEnd (l.take n) = l.take n := by
      unfold mendEnd
      rw [hlen, hlast, if_neg (fun q => hw q.2)]
    rw [he]
    refine okAt_of ho (g_take hi) (fun k => ?_) (fun k => by rw [g_take (by omega)])
    have hin : i + 1 < n := by
      by_cases e : i = n - 1
      · subst e; exact absurd (kind_2 k) hw
      · omega
    exact ⟨by omega, g_take hin⟩
theorem fitRow_ok {l : List Cl} (h : RowOk l) {n : Nat} (h1 : 1 ≤ n) (h2 : n ≤ 40) {a : Look} (ha : attrOk a = true) : RowOk (fitRow l n a) := by
  refine ⟨by rw [fitRow_length]; exact h1, by rw [fitRow_length]; exact h2, ?_⟩
  unfold fitRow
  by_cases hn : n < l.length
  · rw [if_pos hn, Nat.sub_eq_zero_of_le (by omega), List.replicate_zero, List.append_nil]
    exact mendEnd_good h.2.2 hn h1
  · rw [if_neg hn]
    exact good_append h.2.2 (good_blanks ha _)
theorem fitted_rws {R C : Nat} {rs : List (List Cl)} (h : Rws R C rs) {r c : Nat} (h1 : 1 ≤ r) (h2 : r ≤ 40) (h3 : 1 ≤ c) (h4 : c ≤ 40) {a : Look} (ha : attrOk a = true) : Rws r c (fitted rs r c a) := by
  have hl : (fitted rs r c a).length = r := by unfold fitted; rw [List.length_map, List.length_range]
  refine ⟨h1, h2, h3, h4, hl, even_of fun i hi => ?_, fun i hi => ?_⟩
  · rw [hl] at hi
    unfold fitted; rw [rowOf_map _ hi]
    split
    · exact fitRow_length _ _ _
    · exact blankRow_length _ _
  · unfold fitted; rw [rowOf_map _ hi]
    split
    · rename_i q
      exact fitRow_ok (h.ok i (by rw [← h.len]; exact q)) h3 h4 ha
    · exact blankRow_ok h3 h4 ha
end Row
end
section
open Go.RowKit
namespace Row
open Wid
theorem between_any (n lo hi : Int) (w : World) : Calls Tryz.prog 61 #[.int .i64 n, .int .i64 lo, .int .i64 hi] w fun e w' => e = .returned (.bool (rng n lo hi)) ∧ w = w' := by
  by_cases h : lo ≤ n
  · by_cases k : n ≤ hi
    · have H : Hid (rng n lo hi = true) := Lib.hid (by unfold rng; rw [decide_eq_true h, decide_eq_true k]; rfl)
      go_enter Tryz.func61, Tryz.ntmps61
      go_wp2_with fail
      go_ret
      exact ⟨ret_bool H.out.symm, rfl⟩
    · have H : Hid (rng n lo hi = false) := Lib.hid (by unfold rng; rw [decide_eq_false k, Bool.and_false])
      have hd : decide (n ≤ hi) = false := decide_eq_false k
      go_enter Tryz.func61, Tryz.ntmps61
      go_wp2_with fail
      go_ret
      exact ⟨ret_bool H.out.symm, rfl⟩
  · have H : Hid (rng n lo hi = false) := Lib.hid (by unfold rng; rw [decide_eq_false h, Bool.false_and])
    have hd : decide (lo ≤ n) = false := decide_eq_false h
    go_enter Tryz.func61, Tryz.ntmps61
    go_wp2_with fail
    go_ret
    exact ⟨ret_bool H.out.symm, rfl⟩
theorem colour_ok (n : Int) (w : World) : Calls Tryz.prog 146 #[.int .i64 n] w fun e w' => e = .returned (.bool (colourOk n)) ∧ w = w' := by
  go_enter Tryz.func146, Tryz.ntmps146
  go_wp2_with fail
  refine (between_any _ _ _ _).mono ?_; rintro e w' ⟨rfl, rfl⟩
  go_wp2_with fail
  go_ret
  exact ⟨rfl, rfl⟩
theorem num_any (n hi : Int) (w : World) : Calls Tryz.prog 59 #[.int .i64 n, .int .i64 hi] w fun e w' => e = .returned (.bool (rng n 0 hi)) ∧ w = w' := by
  by_cases h : 0 ≤ n
  · by_cases k : n ≤ hi
    · have H : Hid (rng n 0 hi = true) := Lib.hid (by unfold rng; rw [decide_eq_true h, decide_eq_true k]; rfl)
      go_enter Tryz.func59, Tryz.ntmps59
      go_wp2_with fail
      go_ret
      exact ⟨ret_bool H.out.symm, rfl⟩
    · have H : Hid (rng n 0 hi = false) := Lib.hid (by unfold rng; rw [decide_eq_false k, Bool.and_false])
      have hd : decide (n ≤ hi) = false := decide_eq_false k
      go_enter Tryz.func59, Tryz.ntmps59
      go_wp2_with fail
      go_ret
      exact ⟨ret_bool H.out.symm, rfl⟩
  · have H : Hid (rng n 0 hi = false) := Lib.hid (by unfold rng; rw [decide_eq_false h, Bool.false_and])
    have hd : decide (0 ≤ n) = false := decide_eq_false h
    go_enter Tryz.func59, Tryz.ntmps59
    go_wp2_with fail
    go_ret
    exact ⟨ret_bool H.out.symm, rfl⟩
set_option maxHeartbeats 800000 in
theorem attr_any (a : Look) (w : World) : Calls Tryz.prog 110 #[.agg #[.int .i64 a.fg, .int .i64 a.bg, .int .i64 a.flags]] w fun e w' => e = .returned (.bool (attrOk a)) ∧ Below w.heap.size w w' := by
  have hb : Below w.heap.size w (w.alloc (.cells #[.int .i64 a.fg, .int .i64 a.bg, .int .i64 a.flags] 31)) := (Below.refl _ _).alloc (Nat.le_refl _) _
  have HB := Lib.hid hb
  clear hb
  cases h1 : colourOk a.fg with
  | false =>
    have HE : Hid (attrOk a = false) := Lib.hid (by unfold attrOk; rw [h1]; rfl)
    have H1 := Lib.hid h1
    clear h1
    go_enter Tryz.func110, Tryz.ntmps110
    go_wp2_with fail
    refine (colour_ok _ _).mono ?_; rw [H1.out]; rintro e w' ⟨rfl, rfl⟩
    go_wp2_with fail
    go_ret
    exact ⟨ret_bool HE.out.symm, HB.out⟩
  | true =>
    have H1 := Lib.hid h1
    cases h2 : colourOk a.bg with
    | false =>
      have HE : Hid (attrOk a = false) := Lib.hid (by unfold attrOk; rw [h1, h2]; rfl)
      have H2 := Lib.hid h2
      clear h1 h2
      go_enter Tryz.func110, Tryz.ntmps110
      go_wp2_with fail
      refine (colour_ok a.fg _).mono ?_; rw [H1.out]; rintro e w' ⟨rfl, rfl⟩
      go_wp2_with fail
      refine (colour_ok a.bg _).mono ?_; rw [H2.out]; rintro e w' ⟨rfl, rfl⟩
      go_wp2_with fail
      go_ret
      exact ⟨ret_bool HE.out.symm, HB.out⟩
    | true =>
      have HE : Hid (attrOk a = rng a.flags 0 255) := Lib.hid (by unfold attrOk; rw [h1, h2]; rfl)
      have H2 := Lib.hid h2
      clear h1 h2
      go_enter Tryz.func110, Tryz.ntmps110
      go_wp2_with fail
      refine (colour_ok a.fg _).mono ?_; rw [H1.out]; rintro e w' ⟨rfl, rfl⟩
      go_wp2_with fail
      refine (colour_ok a.bg _).mono ?_; rw [H2.out]; rintro e w' ⟨rfl, rfl⟩
      go_wp2_with fail
      refine (num_any _ 255 _).mono ?_; rintro e w' ⟨rfl, rfl⟩
      go_wp2_with fail
      go_ret
      exact ⟨ret_bool HE.out.symm, HB.out⟩
theorem sgrIn_any (n lo hi : Int) (w : World) : Calls Tryz.prog 215 #[.int .i64 n, .int .i64 lo, .int .i64 hi] w fun e w' => e = .returned (.bool (rng n lo hi)) ∧ w = w' := by
  by_cases h : lo ≤ n
  · by_cases k : n ≤ hi
    · have H : Hid (rng n lo hi = true) := Lib.hid (by unfold rng; rw [decide_eq_true h, decide_eq_true k]; rfl)
      go_enter Tryz.func215, Tryz.ntmps215
      go_wp2_with fail
      go_ret
      exact ⟨ret_bool H.out.symm, rfl⟩
    · have H : Hid (rng n lo hi = false) := Lib.hid (by unfold rng; rw [decide_eq_false k, Bool.and_false])
      have hd : decide (n ≤ hi) = false := decide_eq_false k
      go_enter Tryz.func215, Tryz.ntmps215
      go_wp2_with fail
      go_ret
      exact ⟨ret_bool H.out.symm, rfl⟩
  · have H : Hid (rng n lo hi = false) := Lib.hid (by unfold rng; rw [decide_eq_false h, Bool.false_and])
    have hd : decide (lo ≤ n) = false := decide_eq_false h
    go_enter Tryz.func215, Tryz.ntmps215
    go_wp2_with fail
    go_ret
    exact ⟨ret_bool H.out.symm, rfl⟩
set_option maxHeartbeats 800000 in
theorem check_any (a : Look) (b : Bool) (hb : attrOk a = b) (w : World) : Calls Tryz.prog 202 #[.agg #[.int .i64 a.fg, .int .i64 a.bg, .int .i64 a.flags]] w fun e w' => e = .returned (.int .i64 (bif b then 0 else 1)) ∧ Below w.heap.size w w' := by
  have HB : Hid (Below w.heap.size w (w.alloc (.cells #[.int .i64 a.fg, .int .i64 a.bg, .int .i64 a.flags] 31))) := Lib.hid ((Below.refl _ _).alloc (Nat.le_refl _) _)
  cases h1 : colourOk a.fg with
  | false =>
    have e : b = false := by rw [← hb]; unfold attrOk; rw [h1]; rfl
    have H1 : Hid (rng a.fg (-1) 16777471 = false) := Lib.hid h1
    subst e
    clear hb h1
    go_enter Tryz.func202, Tryz.ntmps202
    go_wp2_with fail
    refine (sgrIn_any _ _ _ _).mono ?_; rw [H1.out]; rintro e w' ⟨rfl, rfl⟩
    go_wp2_with fail
    go_ret
    exact ⟨rfl, HB.out⟩
  | true =>
    have H1 : Hid (rng a.fg (-1) 16777471 = true) := Lib.hid h1
    cases h2 : colourOk a.bg with
    | false =>
      have e : b = false := by rw [← hb]; unfold attrOk; rw [h1, h2]; rfl
      have H2 : Hid (rng a.bg (-1) 16777471 = false) := Lib.hid h2
      subst e
      clear hb h1 h2
      go_enter Tryz.func202, Tryz.ntmps202
      go_wp2_with fail
      refine (sgrIn_any a.fg _ _ _).mono ?_; rw [H1.out]; rintro e w' ⟨rfl, rfl⟩
      go_wp2_with fail
      refine (sgrIn_any a.bg _ _ _).mono ?_; rw [H2.out]; rintro e w' ⟨rfl, rfl⟩
      go_wp2_with fail
      go_ret
      exact ⟨rfl, HB.out⟩
    | true =>
      have H2 : Hid (rng a.bg (-1) 16777471 = true) := Lib.hid h2
      have H3 : Hid (rng a.flags 0 255 = b) := Lib.hid (by rw [← hb]; unfold attrOk; rw [h1, h2]; rfl)
      clear hb h1 h2
      cases b
      all_goals
        go_enter Tryz.func202, Tryz.ntmps202
        go_wp2_with fail
        refine (sgrIn_any a.fg _ _ _).mono ?_; rw [H1.out]; rintro e w' ⟨rfl, rfl⟩
        go_wp2_with fail
        refine (sgrIn_any a.bg _ _ _).mono ?_; rw [H2.out]; rintro e w' ⟨rfl, rfl⟩
        go_wp2_with fail
        refine (sgrIn_any a.flags _ _ _).mono ?_; rw [H3.out]; rintro e w' ⟨rfl, rfl⟩
        go_wp2_with fail
        go_ret
        exact ⟨rfl, HB.out⟩
theorem rowIn_any (n lo hi : Int) (w : World) : Calls Tryz.prog 164 #[.int .i64 n, .int .i64 lo, .int .i64 hi] w fun e w' => e = .returned (.bool (rng n lo hi)) ∧ w = w' := by
  by_cases h : lo ≤ n
  · by_cases k : n ≤ hi
    · have H : Hid (rng n lo hi = true) := Lib.hid (by unfold rng; rw [decide_eq_true h, decide_eq_true k]; rfl)
      go_enter Tryz.func164, Tryz.ntmps164
      go_wp2_with fail
      go_ret
      exact ⟨ret_bool H.out.symm, rfl⟩
    · have H : Hid (rng n lo hi = false) := Lib.hid (by unfold rng; rw [decide_eq_false k, Bool.and_false])
      have hd : decide (n ≤ hi) = false := decide_eq_false k
      go_enter Tryz.func164, Tryz.ntmps164
      go_wp2_with fail
      go_ret
      exact ⟨ret_bool H.out.symm, rfl⟩
  · have H : Hid (rng n lo hi = false) := Lib.hid (by unfold rng; rw [decide_eq_false h, Bool.false_and])
    have hd : decide (lo ≤ n) = false := decide_eq_false h
    go_enter Tryz.func164, Tryz.ntmps164
    go_wp2_with fail
    go_ret
    exact ⟨ret_bool H.out.symm, rfl⟩
@[go_sem] theorem w_is_none_none (v : Value) (w : World) : (Instr.typeAssert (.iface 186 v) 184 186 true).run Tryz.prog w = .ok (.tuple #[v, .bool true]) w := by kernel_rfl
@[go_sem] theorem w_is_none_mark (v : Value) (w : World) : (Instr.typeAssert (.iface 188 v) 184 186 true).run Tryz.prog w = .ok (.tuple #[.agg #[], .bool false]) w := by kernel_rfl
@[go_sem] theorem w_is_none_cells (v : Value) (w : World) : (Instr.typeAssert (.iface 190 v) 184 186 true).run Tryz.prog w = .ok (.tuple #[.agg #[], .bool false]) w := by kernel_rfl
@[go_sem] theorem w_is_mark_mark (v : Value) (w : World) : (Instr.typeAssert (.iface 188 v) 184 188 true).run Tryz.prog w = .ok (.tuple #[v, .bool true]) w := by kernel_rfl
@[go_sem] theorem w_is_mark_cells (v : Value) (w : World) : (Instr.typeAssert (.iface 190 v) 184 188 true).run Tryz.prog w = .ok (.tuple #[.agg #[], .bool false]) w := by kernel_rfl
@[go_sem] theorem w_must_cells (v : Value) (w : World) : (Instr.typeAssert (.iface 190 v) 184 190 false).run Tryz.prog w = .ok v w := by kernel_rfl
@[go_sem] theorem w_is_cells_cells (v : Value) (w : World) : (Instr.typeAssert (.iface 190 v) 184 190 true).run Tryz.prog w = .ok (.tuple #[v, .bool true]) w := by kernel_rfl
@[go_sem] theorem w_is_cells_none (v : Value) (w : World) : (Instr.typeAssert (.iface 186 v) 184 190 true).run Tryz.prog w = .ok (.tuple #[.int .i64 0, .bool false]) w := by kernel_rfl
@[go_sem] theorem w_is_cells_mark (v : Value) (w : World) : (Instr.typeAssert (.iface 188 v) 184 190 true).run Tryz.prog w = .ok (.tuple #[.int .i64 0, .bool false]) w := by kernel_rfl
theorem kind_cases (r : Int) : (kindOf r = .iface 186 (.agg #[]) ∧ wid r = -1 ∧ adds r = 0) ∨ (kindOf r = .iface 188 (.agg #[]) ∧ wid r = 0 ∧ adds r = 0) ∨
    (kindOf r = .iface 190 (.int .i64 2) ∧ wid r = 2 ∧ adds r = 2) ∨ (kindOf r = .iface 190 (.int .i64 1) ∧ wid r = 1 ∧ adds r = 1) := by
  unfold kindOf wid adds
  cases isNone r <;> cases isMark r <;> cases isWide r <;> simp
theorem look_at (r : Int) (k : Value) (hk : kindOf r = k) (w : World) : Calls Tryz.prog 162 #[.int .i64 r] w fun e w' => e = .returned k ∧ w = w' := by
  subst hk; exact look_any r w
set_option maxHeartbeats 400000 in
theorem of_any (r : Int) (w : World) : Calls Tryz.prog 123 #[.int .i64 r] w fun e w' => e = .returned (.int .i64 (wid r)) ∧ Below w.heap.size w w' := by
  rcases kind_cases r with ⟨hk, hw, _⟩ | ⟨hk, hw, _⟩ | ⟨hk, hw, _⟩ | ⟨hk, hw, _⟩
  all_goals
    have HK := Lib.hid hk
    have HW := Lib.hid hw
    clear hk hw
    go_enter Tryz.func123, Tryz.ntmps123
    go_wp2_with fail
    refine (look_at r _ HK.out _).mono ?_; rintro e w' ⟨rfl, rfl⟩
    go_wp2_with fail
    go_ret
    exact ⟨ret_int HW.out.symm, by repeat (first | exact Below.refl _ _ | refine Below.alloc ?_ (Nat.le_refl _) _ | refine Below.alloc ?_ (by simp) _ | refine Below.setCell ?_ (by simp) _)⟩
end Row
end
section
open Go.RowKit
namespace Row
def avals (a : Look) : Array Value := #[.int .i64 a.fg, .int .i64 a.bg, .int .i64 a.flags]
def cvals (c : Cl) : List Value := [.int .i64 c.rune, .string ⟨c.comb.toArray⟩, .int .i64 c.wide, .int .i64 c.a.fg, .int .i64 c.a.bg, .int .i64 c.a.flags]
def cagg (c : Cl) : Value := .agg #[.int .i64 c.rune, .string ⟨c.comb.toArray⟩, .int .i64 c.wide, .int .i64 c.a.fg, .int .i64 c.a.bg, .int .i64 c.a.flags]
def flat (l : List Cl) : List Value := (l.map cvals).flatten
theorem flat_cons (c : Cl) (l : List Cl) : flat (c :: l) = cvals c ++ flat l := rfl
theorem flat_append (a b : List Cl) : flat (a ++ b) = flat a ++ flat b := by unfold flat; rw [List.map_append, List.flatten_append]
theorem cvals_len (l : List Cl) : ∀ r ∈ l.map cvals, r.length = 6 := by
  intro r hr
  obtain ⟨c, _, rfl⟩ := List.mem_map.1 hr
  rfl
theorem flat_length (l : List Cl) : (flat l).length = l.length * 6 := by unfold flat; rw [flatten_len _ (cvals_len l), List.length_map]
theorem flat_get {l : List Cl} {i : Nat} (h : i < l.length) {j : Nat} (hj : j < 6) : (flat l)[i * 6 + j]? = (cvals (g l i))[j]? := by
  have hr : (l.map cvals)[i]? = some (cvals (g l i)) := by rw [List.getElem?_map, g_get h]; rfl
  have hj' : j < (cvals (g l i)).length := hj
  rw [List.getElem?_eq_getElem hj']
  exact flatten_get _ (cvals_len l) i _ hr j _ (List.getElem?_eq_getElem hj')
theorem flat_cells (l : List Cl) : ∀ u ∈ flat l, u.oneCell' = true := by
  intro u hu
  obtain ⟨r, hr, hu⟩ := List.mem_flatten.1 hu
  obtain ⟨c, _, rfl⟩ := List.mem_map.1 hr
  simp only [cvals, List.mem_cons, List.not_mem_nil, or_false] at hu
  rcases hu with rfl | rfl | rfl | rfl | rfl | rfl <;> rfl
theorem flat_set : ∀ (l : List Cl) (k : Nat) (_ : k < l.length) (c : Cl),
    ((((((flat l).set (k * 6) (.int .i64 c.rune)).set (k * 6 + 1) (.string ⟨c.comb.toArray⟩)).set (k * 6 + 2) (.int .i64 c.wide)).set (k * 6 + 3) (.int .i64 c.a.fg)).set (k * 6 + 4) (.int .i64 c.a.bg)).set (k * 6 + 5) (.int .i64 c.a.flags) = flat (l.set k c)
  | x :: l, 0, _, c => by
    show _ = cvals c ++ flat l
    rw [flat_cons]
    rfl
  | x :: l, k + 1, h, c => by
    have ih := flat_set l k (by simpa using h) c
    show _ = cvals x ++ flat (l.set k c)
    rw [← ih, flat_cons]
    have hx : (cvals x).length = 6 := rfl
    have e : ∀ (j : Nat) (t : List Value) (v : Value), (cvals x ++ t).set ((k + 1) * 6 + j) v = cvals x ++ t.set (k * 6 + j) v := by
      intro j t v
      rw [List.set_append_right _ _ (by rw [hx]; omega), hx, show (k + 1) * 6 + j - 6 = k * 6 + j from by omega]
    have e0 : ∀ (t : List Value) (v : Value), (cvals x ++ t).set ((k + 1) * 6) v = cvals x ++ t.set (k * 6) v := e 0
    rw [e0, e, e, e, e, e]
def Cs (w : World) (x : Value) (l : List Cl) : Prop := Recs w x 6 l.length (l.map cvals)
def OwnCs (w : World) (base : Nat) (v : Value) (l : List Cl) : Prop := w.ownsRow base 57 6 v l.length (flat l)
theorem OwnCs.cs {w : World} {base : Nat} {v : Value} {l : List Cl} (h : OwnCs w base v l) : Cs w v l := Recs.own h (List.length_map _) (cvals_len l)
theorem OwnCs.kept {w w' : World} {base : Nat} {v : Value} {l : List Cl} (h : OwnCs w base v l) (hb : Below w.heap.size w w') : OwnCs w' base v l :=
  World.ownsRow.kept (row := none) h ⟨hb.os, hb.tape, hb.output, hb.size, fun k hk _ => hb.block k hk⟩ (by cases v.ownBlock <;> simp)
theorem OwnCs.nil (w : World) (base : Nat) : OwnCs w base (.slice none 0 0) [] := World.ownsRow_nil _ _ _ _
theorem OwnCs.low {w : World} {base b2 : Nat} {v : Value} {l : List Cl} (h : OwnCs w base v l) (hb : b2 ≤ base) : OwnCs w b2 v l := Blk.low h hb
theorem OwnCs.lt {w : World} {base : Nat} {v : Value} {l : List Cl} (h : OwnCs w base v l) (k : Nat) (hk : v.ownBlock = some k) : base ≤ k ∧ k < w.heap.size := World.ownsRow.lt h k hk
theorem OwnCs.shape {w : World} {base : Nat} {v : Value} {l : List Cl} (h : OwnCs w base v l) : (v = .slice none 0 0 ∧ l = []) ∨ ∃ g cap, v = .slice (some ⟨g, 0, none⟩) l.length cap ∧ base ≤ g ∧ l.length ≤ cap := by
  rcases h.2 with ⟨rfl, h0⟩ | ⟨g, cap, cur, rfl, hb, hg, hc, _⟩
  · exact .inl ⟨rfl, List.eq_nil_of_length_eq_zero h0⟩
  · exact .inr ⟨g, cap, rfl, hb, hc⟩
theorem Cs.kept {w w' : World} {x : Value} {l : List Cl} (h : Cs w x l) (hb : Below w.heap.size w w') : Cs w' x l := Recs.kept h hb
theorem Cs.drewN {w : World} {x : Value} {l : List Cl} (h : Cs w x l) (q : Nat) : Cs (w.drewN q) x l := h
theorem Cs.nil (w : World) : Cs w (.slice none 0 0) [] := by
  show Recs w _ 6 0 []
  exact ⟨rfl, fun _ h => (by cases h), .inl ⟨rfl, rfl⟩⟩
theorem map_getD {l : List Cl} {k : Nat} (h : k < l.length) : (l.map cvals).getD k [] = cvals (g l k) := by
  rw [List.getD, List.getElem?_map, g_get h]; rfl
theorem Cs.form {w : World} {x : Value} {l : List Cl} (h : Cs w x l) : ∃ A c, x = .slice A l.length c ∧ ∀ k, k < l.length → ∃ ad, A = some ad ∧ At w (ad.add (k * 6)) (cvals (g l k)) := by
  obtain ⟨A, c, rfl, hc⟩ := Recs.form h
  refine ⟨A, c, rfl, fun k hk => ?_⟩
  obtain ⟨ad, h1, h2⟩ := hc k hk
  exact ⟨ad, h1, by rwa [map_getD hk] at h2⟩
theorem Cs.flat {w : World} {ad : Addr} {n c : Nat} {l : List Cl} (h : Cs w (.slice (some ad) n c) l) : n = l.length ∧ ∀ j u, (Row.flat l)[j]? = some u → w.cell? (ad.add j) = some u := by
  obtain ⟨A, c', e, hc⟩ := h.form
  injection e with e1 e2 e3
  subst e1
  refine ⟨e2, fun j u hu => ?_⟩
  have hj : j < l.length * 6 := by rw [← flat_length]; exact (List.getElem?_eq_some_iff.1 hu).1
  have hk : j / 6 < l.length := by omega
  obtain ⟨ad', e, hat⟩ := hc (j / 6) hk
  injection e with e
  subst e
  have hj6 : j % 6 < 6 := Nat.mod_lt _ (by decide)
  have hd : j = j / 6 * 6 + j % 6 := by omega
  have := hat (j % 6) u (by rw [hd, flat_get hk hj6] at hu; exact hu)
  rw [Go.Deep.add_add, ← hd] at this
  exact this
theorem Cs.of {w : World} {ad : Addr} {c : Nat} {l : List Cl} (h : ∀ j u, (Row.flat l)[j]? = some u → w.cell? (ad.add j) = some u) : Cs w (.slice (some ad) l.length c) l := by
  refine ⟨List.length_map _, cvals_len l, .inr ⟨ad, c, rfl, fun i r hr j u hu => ?_⟩⟩
  rw [Go.Deep.add_add]
  exact h _ u (flatten_get _ (cvals_len l) i r hr j u hu)
theorem cell_info : (Tryz.prog.info? 57).map (fun i => (i.zero, i.size, i.bytes)) = some (some (.agg #[.int .i64 0, .string ⟨#[]⟩, .int .i64 0, .int .i64 0, .int .i64 0, .int .i64 0]), 6, 56) := by kernel_rfl
theorem cell_row : ∃ i : TypeInfo, Tryz.prog.info? 57 = some i ∧ i.zero = some (.agg #[.int .i64 0, .string ⟨#[]⟩, .int .i64 0, .int .i64 0, .int .i64 0, .int .i64 0]) ∧ i.size = 6 ∧ i.bytes = 56 := by
  obtain ⟨i, h, h1, h2, h3⟩ := info_parts cell_info
  exact ⟨i, h, h1, h2, h3⟩
theorem run_append_cs {w : World} {base : Nat} {ty : TypeId} {v x : Value} {l r : List Cl} (hown : OwnCs w base v l) (hx : Cs w x r) (hl : l.length + r.length ≤ 1000000000) (hbase : base ≤ w.heap.size) :
    ∃ v' w', (Builtin.append_ #[27, 27] ty #[v, x]).run Tryz.prog w = .ok v' w' ∧ OwnCs w' base v' (l ++ r) ∧ w.grownBy w' v.ownBlock ∧ (v'.ownBlock = v.ownBlock ∨ v'.ownBlock = some w.heap.size) := by
  obtain ⟨i, hi, hz, h6, h56⟩ := cell_row
  rcases hx.2.2 with ⟨rfl, h0⟩ | ⟨ad, c, rfl, _⟩
  · have hr : r = [] := List.eq_nil_of_length_eq_zero h0
    subst hr
    exact ⟨v, w, run_append_owned_none (P := Tryz.prog) (w := w) base _ ty 57 i 6 Tryz.underlying27 hi v l.length _ hown, by rw [List.append_nil]; exact hown, World.grownBy.refl w _, .inl rfl⟩
  · obtain ⟨v', w', hr, h2, h3, _, h5⟩ := run_append_own_at (P := Tryz.prog) w base 27 ty 57 i _ 6 56 Tryz.underlying27 hi hz h6 h56 rfl (by decide) v l.length _ hown ad r.length c (flat r) (flat_length r) hx.flat.2 (flat_cells r) (by simp only [maxLen]; omega) (by omega) hbase
    exact ⟨v', w', hr, by unfold OwnCs; rw [List.length_append, flat_append]; exact h2, h3, h5⟩
theorem wp_append_cs {w : World} {ops : Array Oper} {rest : List Oper} {o : Oper} {a : Act} {Q : Exit → Act → World → Prop} {s x : Operand} (hgd : o.guard = none)
    (ho : o.op = .call { callee := .builtin .append, args := #[s, x], argTypes := #[27, 27] }) (base : Nat) (v y : Value) (l r : List Cl) (hs : a.eval s = v) (hown : OwnCs w base v l)
    (hy : a.eval x = y) (hx : Cs w y r) (hl : l.length + r.length ≤ 1000000000) (hbase : base ≤ w.heap.size)
    (h : ∀ v' w', OwnCs w' base v' (l ++ r) → w.grownBy w' v.ownBlock → (v'.ownBlock = v.ownBlock ∨ v'.ownBlock = some w.heap.size) → wpList Tryz.prog ops Q rest (a.put o.dst v') w') :
    wpList Tryz.prog ops Q (o :: rest) a w := by
  refine wpList_plain hgd fun K hK => ?_
  obtain ⟨v', w', hr, h2, h3, h4⟩ := run_append_cs (ty := o.type) hown hx hl hbase
  unfold Oper.wp execOp
  simp only [ho, resolve, invoke, builtin, Sem.run_bind, Sem.run_pure, Result.andThen_ok, List.map_toArray, List.map_cons, List.map_nil, hs, hy, hr]
  exact hK _ _ (h v' w' h2 h3 h4)
theorem below_cs {B : Nat} {a w w' : World} {v : Value} {l : List Cl} (h : Below B a w) (hg : w.grownBy w' v.ownBlock) (hB : B ≤ w.heap.size) (ho : OwnCs w B v l) : Below B a w' :=
  h.grown hg hB fun k hk => (ho.lt k hk).1
theorem Cs.one (w : World) (c : Cl) (e : TypeId) (cap : Nat) (arr : Array Value) (h : (cvals c).toArray = arr) : Cs (w.alloc (.cells arr e)) (.slice (some ⟨w.heap.size, 0, none⟩) 1 cap) [c] := by
  subst h
  refine Cs.of (l := [c]) fun j u hu => ?_
  have hl : (w.alloc (.cells (cvals c).toArray e)).heap[w.heap.size]? = some (.cells (cvals c).toArray e) := by
    show (w.heap.push _)[w.heap.size]? = _
    simp
  exact World.news_of_block hl j u (by simpa [Row.flat] using hu)
theorem take_succ_g {l : List Cl} {k : Nat} (h : k < l.length) : l.take (k + 1) = l.take k ++ [g l k] := by
  rw [List.take_succ_eq_append_getElem h, g_eq h]
set_option maxHeartbeats 800000 in
theorem copyCells_any (l : List Cl) (x : Value) (w : World) (hx : Cs w x l) (hn : l.length ≤ 100000000) :
    Calls Tryz.prog 105 #[x] w fun e w' => ∃ v, e = .returned v ∧ OwnCs w' w.heap.size v l ∧ Below w.heap.size w w' := by
  obtain ⟨A, c, rfl, ha⟩ := hx.form
  have ha' := Lib.hid ha
  clear ha hx
  go_enter Tryz.func105, Tryz.ntmps105
  go_wp2_with fail
  go_loopw [3, 4] (fun v i wr => ∃ k : Nat, k ≤ l.length ∧ i = .int .i64 k ∧ OwnCs wr w.heap.size v (l.take k) ∧ Below w.heap.size w wr) (fun _ i _ => l.length - (intOf i).toNat)
  case atStart => exact ⟨0, by omega, rfl, OwnCs.nil _ _, Below.refl _ _⟩
  case round =>
    obtain ⟨k, hk, rfl, hown, hbl⟩ := hrel
    by_cases hlt : k < l.length
    · obtain ⟨ad, rfl, K⟩ := ha'.out k hlt
      have K := K.kept hbl
      have HT := Lib.hid (take_succ_g hlt)
      have hlk : Hid ((l.take k).length = k) := Lib.hid (by rw [List.length_take]; omega)
      have HC : Hid (∀ (w : World) (cap : Nat), Cs (w.alloc (.cells (cvals (g l k)).toArray 57)) (.slice (some ⟨w.heap.size, 0, none⟩) 1 cap) [g l k]) := Lib.hid (fun w cap => Cs.one w _ _ _ _ rfl)
      generalize g l k = ev at K HT HC
      obtain ⟨rune, cb, wide, ⟨fg, bg, fl⟩⟩ := ev
      have h0 := K.head
      have h1 := K.next 0 rfl
      have h2 := K.next 1 rfl
      have h3 := K.next 2 rfl
      have h4 := K.next 3 rfl
      have h5 := K.next 4 rfl
      have HOW := Lib.hid hown
      clear K hown
      go_wp2_with (at_builtin; refine wp_append_cs rfl rfl w.heap.size _ _ (l.take k) _ rfl (HOW.out.kept ((Below.refl _ _).alloc (Nat.le_refl _) _)) rfl (HC.out _ _) (by rw [hlk.out]; simp; omega) (by simp; have := hbl.size; omega) ?_; intro v1 w1 ho1 hg1 hat1)
      have hbl2 : Below w.heap.size w w1 := (hbl.alloc hbl.size _).grown hg1 (by simp; have := hbl.size; omega) (fun j hj => (HOW.out.lt j hj).1)
      have HO2 := Lib.hid ho1
      clear ho1
      go_roundw
      case rel => exact ⟨k + 1, by omega, by go_num, by rw [HT.out]; exact HO2.out, hbl2⟩
      case measure => simp [intOf]; omega
    · have hkn : k = l.length := by omega
      subst hkn
      have HE : Hid (l.take l.length = l) := Lib.hid (List.take_of_length_le (Nat.le_refl _))
      go_wp2_with fail
      go_ret
      rw [HE.out] at hown
      exact ⟨_, rfl, hown, hbl⟩
@[go_sem] theorem neq_cell (r : Int) (cb : ByteArray) (x fg bg fl : Int) (w : World) :
    (binOp .neq 57 (.agg #[.int .i64 r, .string cb, .int .i64 x, .int .i64 fg, .int .i64 bg, .int .i64 fl]) (.agg #[.int .i64 r, .string cb, .int .i64 x, .int .i64 fg, .int .i64 bg, .int .i64 fl])).run Tryz.prog w = .ok (.bool false) w := by
  simp [go_sem]
end Row
end
section
open Go.RowKit
namespace Row
theorem OwnCs.n {w : World} {base b n cap : Nat} {l : List Cl} (h : OwnCs w base (.slice (some ⟨b, 0, none⟩) n cap) l) : n = l.length := by
  rcases h.shape with ⟨e, _⟩ | ⟨_, _, e, _⟩
  · injection e with e; cases e
  · injection e
theorem OwnCs.cell {w : World} {base b n cap : Nat} {l : List Cl} (h : OwnCs w base (.slice (some ⟨b, 0, none⟩) n cap) l) {k j : Nat} (hk : k < l.length) (hj : j < 6) :
    w.cell? ⟨b, k * 6 + j, none⟩ = (cvals (g l k))[j]? := by
  have hn : n = l.length := h.n
  subst hn
  rw [World.ownsRow.cellAt h (k * 6 + j) (by omega), flat_get hk hj]
theorem OwnCs.free {w : World} {base b n cap : Nat} {l : List Cl} (h : OwnCs w base (.slice (some ⟨b, 0, none⟩) n cap) l) (j : Nat) : w.frozen? ⟨b, j, none⟩ = false := by
  have hn : n = l.length := h.n
  subst hn
  exact World.ownsRow.frozenAt h j
def putCell (w : World) (b k : Nat) (c : Cl) : World :=
  (((((w.setCell ⟨b, k * 6, none⟩ (.int .i64 c.rune)).setCell ⟨b, k * 6 + 1, none⟩ (.string ⟨c.comb.toArray⟩)).setCell ⟨b, k * 6 + 2, none⟩ (.int .i64 c.wide)).setCell ⟨b, k * 6 + 3, none⟩ (.int .i64 c.a.fg)).setCell ⟨b, k * 6 + 4, none⟩ (.int .i64 c.a.bg)).setCell ⟨b, k * 6 + 5, none⟩ (.int .i64 c.a.flags)
theorem OwnCs.put {w : World} {base b n cap : Nat} {l : List Cl} (h : OwnCs w base (.slice (some ⟨b, 0, none⟩) n cap) l) {k : Nat} (hk : k < l.length) (c : Cl) :
    OwnCs (putCell w b k c) base (.slice (some ⟨b, 0, none⟩) n cap) (l.set k c) := by
  have hn : n = l.length := h.n
  subst hn
  have s0 := World.ownsRow.stored h (k * 6) (.int .i64 c.rune)
  have s1 := s0.1.stored (k * 6 + 1) (.string ⟨c.comb.toArray⟩)
  have s2 := s1.1.stored (k * 6 + 2) (.int .i64 c.wide)
  have s3 := s2.1.stored (k * 6 + 3) (.int .i64 c.a.fg)
  have s4 := s3.1.stored (k * 6 + 4) (.int .i64 c.a.bg)
  have s5 := s4.1.stored (k * 6 + 5) (.int .i64 c.a.flags)
  have e := s5.1
  rw [flat_set l k hk c] at e
  unfold OwnCs
  rw [List.length_set]
  exact e
theorem below_put {B b : Nat} {a w : World} (h : Below B a w) (hB : B ≤ b) (k : Nat) (c : Cl) : Below B a (putCell w b k c) :=
  (((((h.setCell hB _).setCell hB _).setCell hB _).setCell hB _).setCell hB _).setCell hB _
set_option maxHeartbeats 800000 in
theorem eqCells_same (l : List Cl) (x y : Value) (w : World) (hx : Cs w x l) (hy : Cs w y l) (hn : l.length ≤ 100000000) :
    Calls Tryz.prog 104 #[x, y] w fun e w' => e = .returned (.bool true) ∧ ∃ q, w' = w.drewN q := by
  obtain ⟨A, c, rfl, ha⟩ := hx.form
  obtain ⟨A', c', rfl, hb⟩ := hy.form
  have ha' := Lib.hid ha
  have hb' := Lib.hid hb
  clear ha hb hx hy
  go_enter Tryz.func104, Tryz.ntmps104
  go_wp2_with fail
  go_loopw [5] (fun i wr => ∃ k q : Nat, k ≤ l.length ∧ i = .int .i64 k ∧ wr = w.drewN q) (fun i _ => l.length - (intOf i).toNat)
  case atStart => exact ⟨0, 0, by omega, rfl, rfl⟩
  case round =>
    obtain ⟨k, q, hk, rfl, rfl⟩ := hrel
    by_cases hlt : k < l.length
    · obtain ⟨ad, rfl, K⟩ := ha'.out k hlt
      obtain ⟨ad', rfl, K'⟩ := hb'.out k hlt
      generalize g l k = ev at K K'
      obtain ⟨rune, cb, wide, ⟨fg, bg, fl⟩⟩ := ev
      have h0 := K.head
      have h1 := K.next 0 rfl
      have h2 := K.next 1 rfl
      have h3 := K.next 2 rfl
      have h4 := K.next 3 rfl
      have h5 := K.next 4 rfl
      have i0 := K'.head
      have i1 := K'.next 0 rfl
      have i2 := K'.next 1 rfl
      have i3 := K'.next 2 rfl
      have i4 := K'.next 3 rfl
      have i5 := K'.next 4 rfl
      clear K K'
      go_wp2_with fail
      go_quiet (fail)
      go_wp2_with fail
      go_roundw
      case rel => exact ⟨k + 1, _, by omega, by go_num, rfl⟩
      case measure => simp [intOf]; omega
    · go_wp2_with fail
      go_ret
      exact ⟨rfl, _, rfl⟩
set_option maxHeartbeats 1600000 in
theorem cells_over (l : List Cl) (x : Value) (base : Nat) (w : World) (hx : OwnCs w base x l) (hn : l.length ≤ 100000000) :
    Calls Tryz.prog 115 #[x] w fun e w' => e = .returned (.tuple #[]) ∧ Below base w w' := by
  rcases hx.shape with ⟨rfl, h0⟩ | ⟨b, cap, rfl, hb, _⟩
  · clear hx
    go_enter Tryz.func115, Tryz.ntmps115
    go_wp2_with fail
    go_rounds 1
    go_end0
    exact ⟨rfl, Below.refl _ _⟩
  · have HG := Lib.hid hb
    clear hb
    go_enter Tryz.func115, Tryz.ntmps115
    go_wp2_with fail
    go_loopw [2] (fun i wr => ∃ (k : Nat) (ys : List Cl), k ≤ l.length ∧ ys.length = l.length ∧ i = .int .i64 k ∧ OwnCs wr base (.slice (some ⟨b, 0, none⟩) l.length cap) ys ∧ Below base w wr) (fun i _ => l.length - (intOf i).toNat)
    case atStart => exact ⟨0, l, by omega, rfl, rfl, hx, Below.refl _ _⟩
    case round =>
      obtain ⟨k, ys, hk, hyl, rfl, hown, hbl⟩ := hrel
      by_cases hlt : k < l.length
      · have hky : k < ys.length := by omega
        have d0 := hown.cell hky (show 0 < 6 by decide)
        have d1 := hown.cell hky (show 1 < 6 by decide)
        have d2 := hown.cell hky (show 2 < 6 by decide)
        have d3 := hown.cell hky (show 3 < 6 by decide)
        have d4 := hown.cell hky (show 4 < 6 by decide)
        have d5 := hown.cell hky (show 5 < 6 by decide)
        have f0 := hown.free (k * 6)
        have f1 := hown.free (k * 6 + 1)
        have f2 := hown.free (k * 6 + 2)
        have f3 := hown.free (k * 6 + 3)
        have f4 := hown.free (k * 6 + 4)
        have f5 := hown.free (k * 6 + 5)
        simp only [cvals, Nat.add_zero, List.getElem?_cons_zero, List.getElem?_cons_succ] at d0 d1 d2 d3 d4 d5
        have HP := Lib.hid (hown.put hky ⟨-9, [], 0, ⟨0, 0, 0⟩⟩)
        have HB := Lib.hid (below_put hbl HG.out k ⟨-9, [], 0, ⟨0, 0, 0⟩⟩)
        have HL : Hid ((ys.set k ⟨-9, [], 0, ⟨0, 0, 0⟩⟩).length = l.length) := Lib.hid (by rw [List.length_set]; exact hyl)
        generalize ys.set k ⟨-9, [], 0, ⟨0, 0, 0⟩⟩ = zs at HP HL
        generalize g ys k = cc at d0 d1 d2 d3 d4 d5
        obtain ⟨rune, cb, wide, ⟨fg, bg, fl⟩⟩ := cc
        have hyl' := Lib.hid hyl
        clear hown hky hyl hyl'
        go_wp2_with fail
        go_roundw
        case rel => exact ⟨k + 1, zs, by omega, HL.out, by go_num, HP.out, HB.out⟩
        case measure => simp [intOf]; omega
      · have hd : decide (k < l.length) = false := decide_eq_false hlt
        clear hlt
        go_wp2_with fail
        go_end0
        exact ⟨rfl, hbl⟩
set_option maxHeartbeats 400000 in
theorem blank_any (a : Look) (w : World) : Calls Tryz.prog 211 #[.agg #[.int .i64 a.fg, .int .i64 a.bg, .int .i64 a.flags]] w fun e w' => e = .returned (cagg (blank a)) ∧ Below w.heap.size w w' := by
  go_enter Tryz.func211, Tryz.ntmps211
  go_wp2_with fail
  go_returns
  exact ⟨rfl, by repeat (first | exact Below.refl _ _ | refine Below.alloc ?_ (Nat.le_refl _) _ | refine Below.alloc ?_ (by simp) _ | refine Below.setCell ?_ (by simp) _)⟩
set_option maxHeartbeats 400000 in
theorem refblank_any (a : Look) (w : World) : Calls Tryz.prog 148 #[.agg #[.int .i64 a.fg, .int .i64 a.bg, .int .i64 a.flags]] w fun e w' => e = .returned (cagg (blank a)) ∧ Below w.heap.size w w' := by
  go_enter Tryz.func148, Tryz.ntmps148
  go_wp2_with fail
  go_returns
  exact ⟨rfl, by repeat (first | exact Below.refl _ _ | refine Below.alloc ?_ (Nat.le_refl _) _ | refine Below.alloc ?_ (by simp) _ | refine Below.setCell ?_ (by simp) _)⟩
set_option maxHeartbeats 400000 in
theorem sec_any (a : Look) (w : World) : Calls Tryz.prog 206 #[.agg #[.int .i64 a.fg, .int .i64 a.bg, .int .i64 a.flags]] w fun e w' => e = .returned (cagg (sec a)) ∧ Below w.heap.size w w' := by
  go_enter Tryz.func206, Tryz.ntmps206
  go_wp2_with fail
  go_returns
  exact ⟨rfl, by repeat (first | exact Below.refl _ _ | refine Below.alloc ?_ (Nat.le_refl _) _ | refine Below.alloc ?_ (by simp) _ | refine Below.setCell ?_ (by simp) _)⟩
theorem box_cells {w : World} {b : Nat} {a : Look} (h : w.heap[b]? = some (.cells #[.int .i64 a.fg, .int .i64 a.bg, .int .i64 a.flags] 31 (0, 0))) :
    w.cell? ⟨b, 0, none⟩ = some (.int .i64 a.fg) ∧ w.cell? ⟨b, 1, none⟩ = some (.int .i64 a.bg) ∧ w.cell? ⟨b, 2, none⟩ = some (.int .i64 a.flags) :=
  ⟨Blk.cell h 0, Blk.cell h 1, Blk.cell h 2⟩
end Row
end
section
open Go.RowKit
namespace Row
theorem rngY {n lo hi : Int} (h : lo ≤ n ∧ n ≤ hi) : rng n lo hi = true := by unfold rng; rw [decide_eq_true h.1, decide_eq_true h.2]; rfl
theorem rngN {n lo hi : Int} (h : ¬ (lo ≤ n ∧ n ≤ hi)) : rng n lo hi = false := by
  unfold rng
  rw [Bool.and_eq_false_iff]
  by_cases k : lo ≤ n
  · exact .inr (decide_eq_false fun e => h ⟨k, e⟩)
  · exact .inl (decide_eq_false k)
def Rm (w : World) (x : Value) (l : List Cl) : Prop := Cs w x l ∧ ∃ A c, x = .slice A l.length c ∧ l.length ≤ c
theorem Rm.cs {w : World} {x : Value} {l : List Cl} (h : Rm w x l) : Cs w x l := h.1
theorem Rm.kept {w w' : World} {x : Value} {l : List Cl} (h : Rm w x l) (hb : Below w.heap.size w w') : Rm w' x l := ⟨h.1.kept hb, h.2⟩
theorem Rm.nil (w : World) : Rm w (.slice none 0 0) [] := ⟨Cs.nil w, none, 0, rfl, Nat.le_refl _⟩
theorem OwnCs.rm {w : World} {base : Nat} {v : Value} {l : List Cl} (h : OwnCs w base v l) : Rm w v l := by
  refine ⟨h.cs, ?_⟩
  rcases h.shape with ⟨rfl, rfl⟩ | ⟨g, cap, rfl, _, hc⟩
  · exact ⟨none, 0, rfl, Nat.le_refl _⟩
  · exact ⟨_, _, rfl, hc⟩
theorem Rm.room {w : World} {A : Option Addr} {n c : Nat} {l : List Cl} (h : Rm w (.slice A n c) l) : n = l.length ∧ l.length ≤ c := by
  obtain ⟨_, A', c', e, hc⟩ := h
  injection e with e1 e2 e3
  exact ⟨e2, by omega⟩
theorem flat_part {l : List Cl} {lo hi : Nat} (h1 : lo ≤ hi) (h2 : hi ≤ l.length) {j : Nat} {u : Value} (hu : (Row.flat ((l.drop lo).take (hi - lo)))[j]? = some u) : (Row.flat l)[lo * 6 + j]? = some u := by
  have hj : j < (Row.flat ((l.drop lo).take (hi - lo))).length := (List.getElem?_eq_some_iff.1 hu).1
  have hs : Row.flat l = Row.flat (l.take lo) ++ (Row.flat ((l.drop lo).take (hi - lo)) ++ Row.flat ((l.drop lo).drop (hi - lo))) := by
    rw [← flat_append, List.take_append_drop, ← flat_append, List.take_append_drop]
  have hl : (Row.flat (l.take lo)).length = lo * 6 := by rw [flat_length, List.length_take, Nat.min_eq_left (by omega)]
  rw [hs, List.getElem?_append_right (by omega), hl, Nat.add_sub_cancel_left, List.getElem?_append_left hj]
  exact hu
theorem Rm.span {w : World} {A : Option Addr} {n c : Nat} {l : List Cl} (h : Rm w (.slice A n c) l) (lo hi : Nat) (h1 : lo ≤ hi) (h2 : hi ≤ l.length) (i j : Int) (ei : i = lo) (ej : j = hi) :
    ∃ A' c', (∀ w' : World, (Instr.slice 27 (.slice A n c) (some (.int .i64 i)) (some (.int .i64 j)) none).run Tryz.prog w' = .ok (.slice A' (hi - lo) c') w') ∧ Rm w (.slice A' (hi - lo) c') ((l.drop lo).take (hi - lo)) := by
  subst ei; subst ej
  obtain ⟨en, hc⟩ := h.room
  have hu : Tryz.prog.underlying 27 = some (.slice (Tryz.prog.elem 27)) := by kernel_rfl
  have hlen : ((l.drop lo).take (hi - lo)).length = hi - lo := by rw [List.length_take, List.length_drop]; omega
  refine ⟨if c = lo then A else A.map (·.add (lo * 6)), c - lo, fun w' => ?_, ?_, ?_⟩
  · rw [run_slice_lh w' 27 A n c hu .i64 .i64 lo hi (by omega) (by omega) (by omega)]
    have hs : (sizeOf (Tryz.prog.elem 27)).run Tryz.prog w' = .ok 6 w' := by kernel_rfl
    rw [hs]
    simp [Result.andThen, sliced]
  · have hcs := h.cs
    rcases hcs.2.2 with ⟨e, h0⟩ | ⟨ad, c2, e, hcell⟩
    · injection e with e1 e2 e3
      subst e1; subst e3
      have h0 : l.length = 0 := h0
      have e4 : hi - lo = 0 := by omega
      have e5 : lo = 0 := by omega
      subst e5
      have : (l.drop 0).take (hi - 0) = [] := List.eq_nil_of_length_eq_zero (by rw [hlen]; exact e4)
      rw [this, e4, if_pos rfl]
      exact Cs.nil w
    · injection e with e1 e2 e3
      subst e1; subst e3
      by_cases hck : c = lo
      · rw [if_pos hck]
        have hd : (l.drop lo).take (hi - lo) = [] := List.eq_nil_of_length_eq_zero (by rw [hlen]; omega)
        have := Cs.of (w := w) (ad := ad) (c := c - lo) (l := (l.drop lo).take (hi - lo)) fun j u hu => by rw [hd] at hu; simp [Row.flat] at hu
        rwa [hlen] at this
      · rw [if_neg hck]
        have := Cs.of (w := w) (ad := ad.add (lo * 6)) (c := c - lo) (l := (l.drop lo).take (hi - lo)) fun j u hu => by
          rw [Go.Deep.add_add]
          subst en
          exact hcs.flat.2 (lo * 6 + j) u (flat_part h1 h2 hu)
        rwa [hlen] at this
  · exact ⟨_, _, by rw [hlen], by rw [hlen]; omega⟩
theorem Rm.row {w : World} {A : Option Addr} {n c : Nat} {l : List Cl} (h : Rm w (.slice A n c) l) (C i : Nat) (h2 : (i + 1) * C ≤ l.length) (p q : Int) (ep : p = ((i * C : Nat) : Int)) (eq : q = (((i + 1) * C : Nat) : Int)) :
    ∃ A' c', (∀ w' : World, (Instr.slice 27 (.slice A n c) (some (.int .i64 p)) (some (.int .i64 q)) none).run Tryz.prog w' = .ok (.slice A' C c') w') ∧ Rm w (.slice A' C c') (rowAt l C i) := by
  have e : (i + 1) * C - i * C = C := by rw [Nat.succ_mul]; omega
  obtain ⟨A', c', hr, hm⟩ := h.span (i * C) ((i + 1) * C) (by rw [Nat.succ_mul]; omega) h2 p q ep eq
  rw [e] at hr hm
  exact ⟨A', c', hr, hm⟩
theorem OwnCs.take {w : World} {base b n cap : Nat} {l : List Cl} (h : OwnCs w base (.slice (some ⟨b, 0, none⟩) n cap) l) (k : Nat) (hk : k ≤ l.length) : OwnCs w base (.slice (some ⟨b, 0, none⟩) k cap) (l.take k) := by
  have hn : n = l.length := h.n
  have hl : (l.take k).length = k := by rw [List.length_take]; omega
  refine ⟨by rw [flat_length], ?_⟩
  rcases h.2 with ⟨e, _⟩ | ⟨g', cap', cur, e, h1, h2, h3, h4, h5, h6⟩
  · injection e with e; cases e
  · injection e with e1 e2 e3
    injection e1 with e1
    injection e1 with e1
    subst e1; subst e3
    refine .inr ⟨b, cap, cur, by rw [hl], h1, h2, by omega, h4, h5, ?_⟩
    have e7 : Row.flat l = Row.flat (l.take k) ++ Row.flat (l.drop k) := by rw [← flat_append, List.take_append_drop]
    have e8 : (Row.flat l).take (k * 6) = Row.flat (l.take k) := by rw [e7, List.take_left' (by rw [flat_length, hl])]
    rw [hl, ← e8, ← h6, List.take_take, Nat.min_eq_left (by omega)]
theorem OwnCs.set {w : World} {base g : Nat} {v : Value} {l : List Cl} (h : OwnCs w base v l) (hg : g < base) (j : Nat) (u : Value) : OwnCs (w.setCell ⟨g, j, none⟩ u) base v l := by
  refine ⟨h.1, ?_⟩
  rcases h.2 with h0 | ⟨b, cap, cur, rfl, hb, hc, rest⟩
  · exact .inl h0
  · exact .inr ⟨b, cap, cur, rfl, hb, Blk.other hc (by omega) j u, rest⟩
theorem new_alloc (w : World) (o : Obj) (k : Nat) (h : w.heap.size = k) : (w.alloc o).heap[k]? = some o := by subst h; exact heap_alloc_new w o
theorem old_alloc {w : World} {k : Nat} {o : Obj} (h : w.heap[k]? = some o) (o' : Obj) : (w.alloc o').heap[k]? = some o := Blk.kept h ((Below.refl _ _).alloc (Nat.le_refl _) _)
abbrev gbox (R C : Int) (v : Value) : Obj := .cells #[.int .i64 R, .int .i64 C, v] 29 (0, 0)
def gput (w : World) (g : Nat) (R C : Int) (v : Value) : World := ((w.setCell ⟨g, 0, none⟩ (.int .i64 R)).setCell ⟨g, 1, none⟩ (.int .i64 C)).setCell ⟨g, 2, none⟩ v
theorem gput_box {w : World} {g : Nat} {R0 C0 : Int} {v0 : Value} (h : w.heap[g]? = some (gbox R0 C0 v0)) (R C : Int) (v : Value) : (gput w g R C v).heap[g]? = some (gbox R C v) := Blk.set (Blk.set (Blk.set h 0 _) 1 _) 2 _
theorem gput_other {w : World} {g b : Nat} {o : Obj} (h : w.heap[b]? = some o) (hn : b ≠ g) (R C : Int) (v : Value) : (gput w g R C v).heap[b]? = some o := Blk.other (Blk.other (Blk.other h hn _ _) hn _ _) hn _ _
theorem gput_own {w : World} {base g : Nat} {x : Value} {l : List Cl} (h : OwnCs w base x l) (hg : g < base) (R C : Int) (v : Value) : OwnCs (gput w g R C v) base x l := ((h.set hg _ _).set hg _ _).set hg _ _
theorem gput_below {B g : Nat} {a w : World} (h : Below B a w) (hB : B ≤ g) (R C : Int) (v : Value) : Below B a (gput w g R C v) := ((h.setCell hB _).setCell hB _).setCell hB _
end Row
end
end Go.Proofs.YtceaoadlhdgnmaaGreatDoor
