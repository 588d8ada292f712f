/- Cells of runes as plain numbers: what is seen, what is a mark, what is wide. No program stands in this text. -/
import Derived.Test.YthkfcfmnccfbnaaUtfPlain
namespace Go.Proofs.Ythkfcfmnccfbnaa
namespace Wid

def within (r lo hi : Int) : Bool := decide (lo ≤ r) && decide (r ≤ hi)
def isNone (r : Int) : Bool := decide (r < 32) || (within r 127 159 || (within r 55296 57343 || decide (1114111 < r)))
def isMark (r : Int) : Bool := within r 768 879 || (within r 6832 6911 || (within r 8203 8207 || (within r 8400 8447 || (within r 65024 65039 || within r 65056 65071))))
def isWide (r : Int) : Bool := within r 4352 4447 || (within r 11904 12350 || (within r 12353 42191 || (within r 44032 55203 || (within r 63744 64255 || (within r 65072 65135 || (within r 65280 65376 || (within r 65504 65510 || (within r 127744 128591 || (within r 129280 129535 || within r 131072 262141)))))))))
def wid (r : Int) : Int := bif isNone r then -1 else bif isMark r then 0 else bif isWide r then 2 else 1
/-- What a rune adds to a text. -/
def adds (r : Int) : Int := bif isNone r then 0 else bif isMark r then 0 else bif isWide r then 2 else 1
theorem adds_wid (r : Int) : max 0 (wid r) = adds r := by
  unfold wid adds
  cases isNone r <;> cases isMark r <;> cases isWide r <;> decide
theorem adds_bd (r : Int) : 0 ≤ adds r ∧ adds r ≤ 2 := by
  unfold adds
  cases isNone r <;> cases isMark r <;> cases isWide r <;> decide
/-- Pairs of a low and a high number: is r in one? -/
def pairs (r : Int) : List Int → Bool
  | lo :: hi :: l => within r lo hi || pairs r l
  | _ => false

/-- What a text's runes add, by range: as many steps as it has bytes are enough. -/
def sums : Nat → List UInt8 → Int
  | 0, _ => 0
  | n + 1, l => if l = [] then 0 else adds (Utf.dec l).1 + sums n (l.drop (Utf.dec l).2)
def text (l : List UInt8) : Int := sums l.length l
theorem dec_pos {l : List UInt8} (h : l ≠ []) : 1 ≤ (Utf.dec l).2 := by
  rcases Utf.dec_rune l h with ⟨e, _⟩ | ⟨_, h1, _⟩
  · rw [e]; exact Nat.le_refl _
  · exact h1
theorem dec_le {l : List UInt8} (h : l ≠ []) : (Utf.dec l).2 ≤ l.length := by
  rcases Utf.dec_rune l h with ⟨e, _⟩ | ⟨h1, _⟩
  · rw [e]; exact List.length_pos_iff.2 h
  · exact h1
theorem sums_enough : ∀ (n : Nat) (l : List UInt8), l.length ≤ n → sums n l = sums l.length l
  | 0, l, h => by
    have : l = [] := List.eq_nil_of_length_eq_zero (by omega)
    subst this; rfl
  | n + 1, l, h => by
    by_cases hl : l = []
    · subst hl; simp [sums]
    · have h1 := dec_pos hl
      have h2 : l.length ≠ 0 := fun e => hl (List.eq_nil_of_length_eq_zero e)
      obtain ⟨m, hm⟩ : ∃ m, l.length = m + 1 := ⟨l.length - 1, by omega⟩
      rw [hm]
      simp only [sums, if_neg hl]
      have hd : (l.drop (Utf.dec l).2).length ≤ m := by rw [List.length_drop]; omega
      rw [sums_enough n _ (by omega), sums_enough m _ hd]
theorem text_nil : text [] = 0 := rfl
theorem text_step {l : List UInt8} (h : l ≠ []) : text l = adds (Utf.dec l).1 + text (l.drop (Utf.dec l).2) := by
  have h1 := dec_pos h
  have h2 : l.length ≠ 0 := fun e => h (List.eq_nil_of_length_eq_zero e)
  obtain ⟨m, hm⟩ : ∃ m, l.length = m + 1 := ⟨l.length - 1, by omega⟩
  unfold text
  rw [hm]
  simp only [sums, if_neg h]
  rw [sums_enough m _ (by rw [List.length_drop]; omega)]
theorem text_bd : ∀ (n : Nat) (l : List UInt8), l.length ≤ n → 0 ≤ text l ∧ text l ≤ 2 * l.length
  | 0, l, h => by
    have : l = [] := List.eq_nil_of_length_eq_zero (by omega)
    subst this; simp [text_nil]
  | n + 1, l, h => by
    by_cases hl : l = []
    · subst hl; simp [text_nil]
    · have h1 := dec_pos hl
      have h2 := dec_le hl
      have h3 := text_bd n (l.drop (Utf.dec l).2) (by rw [List.length_drop]; omega)
      rw [List.length_drop] at h3
      have h4 := adds_bd (Utf.dec l).1
      rw [text_step hl]
      omega
theorem text_bound (l : List UInt8) : 0 ≤ text l ∧ text l ≤ 2 * l.length := text_bd l.length l (Nat.le_refl _)

theorem follows_1_is {f b : Nat} (h : Utf.follows f 1 b = true) : 128 ≤ b ∧ b ≤ 191 ∧ (f = 224 → 160 ≤ b) ∧ (f = 240 → 144 ≤ b) ∧ (f = 237 → b ≤ 159) ∧ (f = 244 → b ≤ 143) := by
  have h := Utf.follows_iff.1 h
  simp only [Utf.low, Utf.high, if_true] at h
  repeat' split at h
  all_goals omega
theorem more_is {f n : Nat} (h : Utf.more f = n + 1) : (n = 0 ∧ 194 ≤ f ∧ f ≤ 223) ∨ (n = 1 ∧ 224 ≤ f ∧ f ≤ 239) ∨ (n = 2 ∧ 240 ≤ f ∧ f ≤ 244) := by
  unfold Utf.more at h
  repeat' split at h
  all_goals omega
/-- A whole rune at the head is decoded, whatever follows. -/
theorem dec_head {l : List UInt8} {r : Nat} (h : Utf.Rune l r) (x : List UInt8) : Utf.dec (l ++ x) = (r, l.length) := by
  unfold Utf.dec
  match l, h with
  | [b], ⟨h0, e⟩ =>
    subst e
    simp [Lib.decodeN, h0]
  | [f, g], ⟨hm, h1, e⟩ =>
    have a := more_is (n := 0) hm
    have b := follows_1_is h1
    have e' : r = f.toNat % 32 * 64 + g.toNat % 64 := e
    simp only [List.cons_append, List.nil_append, List.getD_cons_zero, List.getD_cons_succ, List.length_cons, List.length_nil]
    unfold Lib.decodeN
    rw [if_neg (by omega), if_pos (by omega), if_pos (by omega), e']
  | [f, g, k], ⟨hm, h1, h2, e⟩ =>
    have a := more_is (n := 1) hm
    have b := follows_1_is h1
    have c := Utf.follows_pos h2
    have e' : r = (f.toNat % 16 * 64 + g.toNat % 64) * 64 + k.toNat % 64 := e
    simp only [List.cons_append, List.nil_append, List.getD_cons_zero, List.getD_cons_succ, List.length_cons, List.length_nil]
    unfold Lib.decodeN
    rw [if_neg (by omega), if_neg (by omega), if_pos (by omega), if_pos (by omega), e']
    exact Prod.ext (by show (_ : Nat) = _; omega) rfl
  | [f, g, k, j], ⟨hm, h1, h2, h3, e⟩ =>
    have a := more_is (n := 2) hm
    have b := follows_1_is h1
    have c := Utf.follows_pos h2
    have d := Utf.follows_pos h3
    have e' : r = ((f.toNat % 8 * 64 + g.toNat % 64) * 64 + k.toNat % 64) * 64 + j.toNat % 64 := e
    simp only [List.cons_append, List.nil_append, List.getD_cons_zero, List.getD_cons_succ, List.length_cons, List.length_nil]
    unfold Lib.decodeN
    rw [if_neg (by omega), if_neg (by omega), if_neg (by omega), if_pos (by omega), if_pos (by omega), e']
    exact Prod.ext (by show (_ : Nat) = _; omega) rfl
/-- Where the first rune is whole, what follows a text does not turn it. -/
theorem text_more {l : List UInt8} (t : List UInt8) (h : l ≠ []) (hk : (Utf.dec l).2 ≤ l.length) (hr : Utf.Rune (l.take (Utf.dec l).2) (Utf.dec l).1) :
    text (l ++ t) = adds (Utf.dec l).1 + text (l.drop (Utf.dec l).2 ++ t) := by
  have hs : l ++ t = l.take (Utf.dec l).2 ++ (l.drop (Utf.dec l).2 ++ t) := by rw [← List.append_assoc, List.take_append_drop]
  have hd : Utf.dec (l ++ t) = ((Utf.dec l).1, (Utf.dec l).2) := by
    rw [hs, dec_head hr, List.length_take, Nat.min_eq_left hk]
  rw [text_step (by simp [h]), hd]
  simp only []
  rw [List.drop_append_of_le_length hk]
theorem text_ab : text [97, 98] = 2 := by decide
end Wid
end Go.Proofs.Ythkfcfmnccfbnaa
