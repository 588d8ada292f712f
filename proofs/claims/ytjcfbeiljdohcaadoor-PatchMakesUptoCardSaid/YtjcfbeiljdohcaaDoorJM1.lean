/- Joined texts: UtfPlain, WidPlain. -/
import Derived.Lib.TrimUEq
namespace Go.Proofs.YtjcfbeiljdohcaaDoor
set_option maxRecDepth 100000
section
namespace Utf
def more (b : Nat) : Nat := if 194 ≤ b ∧ b ≤ 223 then 1 else if 224 ≤ b ∧ b ≤ 239 then 2 else if 240 ≤ b ∧ b ≤ 244 then 3 else 0
def low (f i : Nat) : Nat := if i = 1 then (if f = 224 then 160 else if f = 240 then 144 else 128) else 128
def high (f i : Nat) : Nat := if i = 1 then (if f = 237 then 159 else if f = 244 then 143 else 191) else 191
def follows (f i b : Nat) : Bool := decide (low f i ≤ b ∧ b ≤ high f i)
theorem follows_iff {f i b : Nat} : follows f i b = true ↔ low f i ≤ b ∧ b ≤ high f i := decide_eq_true_iff
def isPart : List UInt8 → Bool
  | [f] => decide (0 < more f.toNat)
  | [f, g] => decide (1 < more f.toNat) && follows f.toNat 1 g.toNat
  | [f, g, h] => decide (2 < more f.toNat) && (follows f.toNat 1 g.toNat && follows f.toNat 2 h.toNat)
  | _ => false
def fits (p : List UInt8) : Bool := p.isEmpty || isPart p
def value : List UInt8 → UInt8 → Nat
  | [f], b => f.toNat % 32 * 64 + b.toNat % 64
  | [f, g], b => (f.toNat % 16 * 64 + g.toNat % 64) * 64 + b.toNat % 64
  | [f, g, h], b => ((f.toNat % 8 * 64 + g.toNat % 64) * 64 + h.toNat % 64) * 64 + b.toNat % 64
  | _, _ => 0
def start (b : UInt8) : List Int × List UInt8 :=
  if b.toNat < 128 then ([(b.toNat : Int)], []) else if 0 < more b.toNat then ([], [b]) else ([65533], [])
def brk (p : List UInt8) : List Int := if p = [] then [] else [65533]
def next (p : List UInt8) (b : UInt8) : List Int × List UInt8 :=
  match p with
  | [] => start b
  | f :: r =>
    if follows f.toNat (r.length + 1) b.toNat then
      (if r.length + 1 < more f.toNat then ([], f :: r ++ [b]) else ([(value (f :: r) b : Int)], []))
    else (65533 :: (start b).1, (start b).2)
theorem next_nil (b : UInt8) : next [] b = start b := rfl
theorem next_cons (f : UInt8) (r : List UInt8) (b : UInt8) : next (f :: r) b =
    if follows f.toNat (r.length + 1) b.toNat then
      (if r.length + 1 < more f.toNat then ([], f :: r ++ [b]) else ([(value (f :: r) b : Int)], []))
    else (65533 :: (start b).1, (start b).2) := rfl
def all : List UInt8 → List UInt8 → List Int × List UInt8
  | p, [] => ([], p)
  | p, b :: s => ((next p b).1 ++ (all (next p b).2 s).1, (all (next p b).2 s).2)
theorem byte_lt (b : UInt8) : b.toNat < 256 := b.toNat_lt
theorem more_le (b : Nat) : more b ≤ 3 := by unfold more; repeat' split
                                             all_goals omega
theorem more_pos {b : Nat} (h : 0 < more b) : 194 ≤ b ∧ b ≤ 244 := by
  unfold more at h
  repeat' split at h
  all_goals omega
theorem follows_pos {f i b : Nat} (h : follows f i b = true) : 128 ≤ b ∧ b ≤ 191 := by
  unfold follows low high at h
  have h := of_decide_eq_true h
  repeat' split at h
  all_goals omega
theorem part_len {p : List UInt8} (h : isPart p = true) : 1 ≤ p.length ∧ p.length ≤ 3 := by
  match p with
  | [] => simp [isPart] at h
  | [_] => simp
  | [_, _] => simp
  | [_, _, _] => simp
  | _ :: _ :: _ :: _ :: _ => simp [isPart] at h
theorem fits_len {p : List UInt8} (h : fits p = true) : p.length ≤ 3 := by
  unfold fits at h
  rcases Bool.or_eq_true _ _ ▸ h with h | h
  · rw [List.isEmpty_iff] at h; subst h; simp
  · exact (part_len h).2
theorem fits_nil : fits [] = true := rfl
theorem fits_part {p : List UInt8} (h : isPart p = true) : fits p = true := by simp [fits, h]
theorem fits_cases {p : List UInt8} (h : fits p = true) : p = [] ∨ isPart p = true := by
  unfold fits at h
  rcases Bool.or_eq_true _ _ ▸ h with h | h
  · rw [List.isEmpty_iff] at h; exact .inl h
  · exact .inr h
theorem part_ne {p : List UInt8} (h : isPart p = true) : p ≠ [] := by rintro rfl; simp [isPart] at h
theorem part_more {f : UInt8} {r : List UInt8} (h : isPart (f :: r) = true) : r.length + 1 ≤ more f.toNat := by
  match r with
  | [] => simp [isPart] at h; simp; omega
  | [_] => simp [isPart] at h; simp; omega
  | [_, _] => simp [isPart] at h; simp; omega
  | _ :: _ :: _ :: _ => simp [isPart] at h
theorem part_snoc {f : UInt8} {r : List UInt8} {b : UInt8} (h : isPart (f :: r) = true) (hf : follows f.toNat (r.length + 1) b.toNat = true) (hm : r.length + 1 < more f.toNat) : isPart (f :: r ++ [b]) = true := by
  match r with
  | [] => simp [isPart] at hm ⊢; exact ⟨hm, by simpa using hf⟩
  | [_] => simp [isPart] at h hm ⊢; exact ⟨hm, h.2, by simpa using hf⟩
  | [_, _] => simp at hm; have := more_le f.toNat; omega
  | _ :: _ :: _ :: _ => simp [isPart] at h
theorem snoc_part {f : UInt8} {r : List UInt8} {b : UInt8} (h : isPart (f :: r ++ [b]) = true) : isPart (f :: r) = true ∧ follows f.toNat (r.length + 1) b.toNat = true ∧ r.length + 1 < more f.toNat := by
  match r with
  | [] => simp [isPart] at h ⊢; exact ⟨by omega, h.2, h.1⟩
  | [_] => simp [isPart] at h ⊢; exact ⟨⟨by omega, h.2.1⟩, h.2.2, h.1⟩
  | [_, _] => simp [isPart] at h
  | _ :: _ :: _ :: _ => simp [isPart] at h
theorem start_fits (b : UInt8) : fits (start b).2 = true := by
  unfold start
  split
  · rfl
  · split
    · rename_i h; exact fits_part (by simpa [isPart] using h)
    · rfl
theorem next_fits {p : List UInt8} (b : UInt8) (h : fits p = true) : fits (next p b).2 = true := by
  match p with
  | [] => exact start_fits b
  | f :: r =>
    have hp : isPart (f :: r) = true := by rcases fits_cases h with e | e; cases e; exact e
    rw [next_cons]
    split
    · rename_i hf
      split
      · rename_i hm; exact fits_part (part_snoc hp hf hm)
      · rfl
    · exact start_fits b
theorem all_fits : ∀ {p : List UInt8} (s : List UInt8), fits p = true → fits (all p s).2 = true
  | _, [], h => h
  | _, b :: s, h => all_fits s (next_fits b h)
theorem all_append : ∀ (p s t : List UInt8), all p (s ++ t) = ((all p s).1 ++ (all (all p s).2 t).1, (all (all p s).2 t).2)
  | _, [], _ => by simp [all]
  | p, b :: s, t => by simp [all, all_append (next p b).2 s t]
theorem all_snoc (p s : List UInt8) (b : UInt8) : all p (s ++ [b]) = ((all p s).1 ++ (next (all p s).2 b).1, (next (all p s).2 b).2) := by simp [all_append, all]
theorem next_len (p : List UInt8) (b : UInt8) : (next p b).1.length ≤ 2 := by
  have hs : (start b).1.length ≤ 1 := by unfold start; repeat' split
                                         all_goals simp
  match p with
  | [] => rw [next_nil]; omega
  | f :: r =>
    rw [next_cons]
    repeat' split
    all_goals simp
    all_goals omega
theorem all_len : ∀ (p s : List UInt8), (all p s).1.length ≤ 2 * s.length
  | _, [] => by simp [all]
  | p, b :: s => by
    have := all_len (next p b).2 s
    have := next_len p b
    simp [all]; omega
theorem all_part {p : List UInt8} (h : fits p = true) : all [] p = ([], p) := by
  rcases fits_cases h with rfl | h
  · rfl
  · have hl : ∀ f : UInt8, 0 < more f.toNat → start f = ([], [f]) := fun f hf => by
      have := more_pos hf
      unfold start; rw [if_neg (by omega), if_pos hf]
    match p with
    | [] => rfl
    | [f] => simp [isPart] at h; simp [all, next, hl f h]
    | [f, g] =>
      simp [isPart] at h
      simp [all, next, hl f (by omega), h.2, h.1]
    | [f, g, k] =>
      simp [isPart] at h
      have h1 : 1 < more f.toNat := by omega
      simp [all, next, hl f (by omega), h.2.1, h.2.2, h1, h.1]
    | _ :: _ :: _ :: _ :: _ => simp [isPart] at h
def dec (l : List UInt8) : Nat × Nat := Lib.decodeN l.length (l.getD 0 0).toNat (l.getD 1 0).toNat (l.getD 2 0).toNat (l.getD 3 0).toNat
def own : List UInt8 → Bool
  | a :: b :: c :: _ => a == 239 && (b == 191 && c == 189)
  | _ => false
theorem next_lead {p : List UInt8} {b : UInt8} (hp : fits p = true) (h : ¬ (128 ≤ b.toNat ∧ b.toNat ≤ 191)) : next p b = (brk p ++ (start b).1, (start b).2) := by
  match p with
  | [] => simp [next, brk]
  | f :: r =>
    rw [next_cons]
    have hf : follows f.toNat (r.length + 1) b.toNat = false := by
      cases e : follows f.toNat (r.length + 1) b.toNat
      · rfl
      · exact absurd (follows_pos e) h
    simp [hf, brk]
theorem brk_eq (p : List UInt8) : brk p = if p = [] then [] else [65533] := rfl
theorem lead_start {b : UInt8} (h : 0 < more b.toNat) : start b = ([], [b]) := by
  have := more_pos h
  unfold start; rw [if_neg (by omega), if_pos h]
theorem all_one {p : List UInt8} {b : UInt8} (hp : fits p = true) (h : b.toNat < 128) : all p [b] = (brk p ++ [(b.toNat : Int)], []) := by
  have hs : start b = ([(b.toNat : Int)], []) := by unfold start; rw [if_pos h]
  simp [all, next_lead hp (b := b) (by omega), hs]
theorem all_lead {p : List UInt8} {b : UInt8} (s : List UInt8) (hp : fits p = true) (h : 0 < more b.toNat) : all p (b :: s) = (brk p ++ (all [b] s).1, (all [b] s).2) := by
  have := more_pos h
  simp [all, next_lead hp (b := b) (by omega), lead_start h]
theorem all_two {p : List UInt8} {f g : UInt8} (hp : fits p = true) (hm : more f.toNat = 1) (h1 : follows f.toNat 1 g.toNat = true) : all p [f, g] = (brk p ++ [(value [f] g : Int)], []) := by
  rw [all_lead _ hp (by omega)]
  simp [all, next_cons, hm, h1]
theorem all_three {p : List UInt8} {f g k : UInt8} (hp : fits p = true) (hm : more f.toNat = 2) (h1 : follows f.toNat 1 g.toNat = true) (h2 : follows f.toNat 2 k.toNat = true) : all p [f, g, k] = (brk p ++ [(value [f, g] k : Int)], []) := by
  rw [all_lead _ hp (by omega)]
  simp [all, next_cons, hm, h1, h2]
theorem all_four {p : List UInt8} {f g k j : UInt8} (hp : fits p = true) (hm : more f.toNat = 3) (h1 : follows f.toNat 1 g.toNat = true) (h2 : follows f.toNat 2 k.toNat = true) (h3 : follows f.toNat 3 j.toNat = true) :
    all p [f, g, k, j] = (brk p ++ [(value [f, g, k] j : Int)], []) := by
  rw [all_lead _ hp (by omega)]
  simp [all, next_cons, hm, h1, h2, h3]
def Rune : List UInt8 → Nat → Prop
  | [b], r => b.toNat < 128 ∧ r = b.toNat
  | [f, g], r => more f.toNat = 1 ∧ follows f.toNat 1 g.toNat = true ∧ r = value [f] g
  | [f, g, k], r => more f.toNat = 2 ∧ follows f.toNat 1 g.toNat = true ∧ follows f.toNat 2 k.toNat = true ∧ r = value [f, g] k
  | [f, g, k, j], r => more f.toNat = 3 ∧ follows f.toNat 1 g.toNat = true ∧ follows f.toNat 2 k.toNat = true ∧ follows f.toNat 3 j.toNat = true ∧ r = value [f, g, k] j
  | _, _ => False
theorem Rune.all_ {l : List UInt8} {r : Nat} (hr : Rune l r) {p : List UInt8} (hp : fits p = true) : all p l = (brk p ++ [(r : Int)], []) := by
  match l, hr with
  | [_], ⟨h0, e⟩ => rw [e]; exact all_one hp h0
  | [_, _], ⟨hm, h1, e⟩ => rw [e]; exact all_two hp hm h1
  | [_, _, _], ⟨hm, h1, h2, e⟩ => rw [e]; exact all_three hp hm h1 h2
  | [_, _, _, _], ⟨hm, h1, h2, h3, e⟩ => rw [e]; exact all_four hp hm h1 h2 h3
theorem more_1 {f : Nat} (h : 194 ≤ f ∧ f ≤ 223) : more f = 1 := by unfold more; rw [if_pos h]
theorem more_2 {f : Nat} (h : 224 ≤ f ∧ f ≤ 239) : more f = 2 := by unfold more; rw [if_neg (by omega), if_pos h]
theorem more_3 {f : Nat} (h : 240 ≤ f ∧ f ≤ 244) : more f = 3 := by unfold more; rw [if_neg (by omega), if_neg (by omega), if_pos h]
theorem follows_1 {f b : Nat} (h : (if f = 224 then 160 else if f = 240 then 144 else 128) ≤ b ∧ b ≤ (if f = 237 then 159 else if f = 244 then 143 else 191)) : follows f 1 b = true := by
  simp only [follows, low, high, if_true]; exact decide_eq_true h
theorem follows_n {f i b : Nat} (hi : i ≠ 1) (h : 128 ≤ b ∧ b ≤ 191) : follows f i b = true := by
  simp only [follows, low, high, if_neg hi]; exact decide_eq_true h
theorem dec_own {l : List UInt8} (h : own l = true) : dec l = (65533, 3) := by
  match l with
  | [] => simp [own] at h
  | [_] => simp [own] at h
  | [_, _] => simp [own] at h
  | a :: b :: c :: r =>
    simp [own] at h
    obtain ⟨rfl, rfl, rfl⟩ := h
    simp [dec, Lib.decodeN]
set_option maxHeartbeats 1000000 in
theorem decodeN_cases (n a b c d : Nat) (ha : a < 256) (hb : b < 256) (hc : c < 256) (hd : d < 256) :
    Lib.decodeN n a b c d = (65533, 1) ∨ (a < 128 ∧ Lib.decodeN n a b c d = (a, 1)) ∨
    (1 < n ∧ more a = 1 ∧ follows a 1 b = true ∧ Lib.decodeN n a b c d = (a % 32 * 64 + b % 64, 2)) ∨
    (2 < n ∧ more a = 2 ∧ follows a 1 b = true ∧ follows a 2 c = true ∧ Lib.decodeN n a b c d = ((a % 16 * 64 + b % 64) * 64 + c % 64, 3)) ∨
    (3 < n ∧ more a = 3 ∧ follows a 1 b = true ∧ follows a 2 c = true ∧ follows a 3 d = true ∧ Lib.decodeN n a b c d = (((a % 8 * 64 + b % 64) * 64 + c % 64) * 64 + d % 64, 4)) := by
  unfold Lib.decodeN
  split
  · exact .inr (.inl ⟨by assumption, rfl⟩)
  split
  · rename_i _ h
    split
    · rename_i h2
      refine .inr (.inr (.inl ⟨h.2.1, more_1 (by omega), follows_1 ⟨?_, ?_⟩, rfl⟩))
      · repeat' split
        all_goals omega
      · repeat' split
        all_goals omega
    · exact .inl rfl
  split
  · rename_i _ h
    split
    · rename_i h2
      refine .inr (.inr (.inr (.inl ⟨h.2.2.1, more_2 (by omega), follows_1 ⟨?_, ?_⟩, follows_n (by omega) (by omega), ?_⟩)))
      · repeat' split
        all_goals omega
      · repeat' split
        all_goals omega
      · refine Prod.ext ?_ rfl
        show _ = (_ : Nat)
        omega
    · exact .inl rfl
  split
  · rename_i _ h
    split
    · rename_i h2
      refine .inr (.inr (.inr (.inr ⟨h.2.2.2.1, more_3 (by omega), follows_1 ⟨?_, ?_⟩, follows_n (by omega) (by omega), follows_n (by omega) (by omega), ?_⟩)))
      · repeat' split
        all_goals omega
      · repeat' split
        all_goals omega
      · refine Prod.ext ?_ rfl
        show _ = (_ : Nat)
        omega
    · exact .inl rfl
  · exact .inl rfl
theorem dec_rune (l : List UInt8) (h : l ≠ []) : (dec l = (65533, 1) ∧ own l = false) ∨ ((dec l).2 ≤ l.length ∧ 1 ≤ (dec l).2 ∧ Rune (l.take (dec l).2) (dec l).1 ∧ ((dec l).1 = 65533 → own l = true)) := by
  have hown : ∀ {x : List UInt8}, dec x = (65533, 1) → own x = false := fun {x} e => by
    cases ho : own x
    · rfl
    · rw [dec_own ho] at e; cases e
  rcases decodeN_cases l.length (l.getD 0 0).toNat (l.getD 1 0).toNat (l.getD 2 0).toNat (l.getD 3 0).toNat (byte_lt _) (byte_lt _) (byte_lt _) (byte_lt _) with e | ⟨h1, e⟩ | ⟨hn, h1, h2, e⟩ | ⟨hn, h1, h2, h3, e⟩ | ⟨hn, h1, h2, h3, h4, e⟩
  · exact .inl ⟨e, hown e⟩
  · have e' : dec l = _ := e
    match l, h with
    | a :: r, _ =>
      refine .inr ?_
      rw [e']
      refine ⟨by simp, Nat.le_refl _, ⟨h1, rfl⟩, fun e => ?_⟩
      simp at e h1
      omega
  · have e' : dec l = _ := e
    match l, hn with
    | a :: b :: r, _ =>
      refine .inr ?_
      rw [e']
      refine ⟨by simp, by simp, ⟨h1, h2, rfl⟩, fun e => ?_⟩
      simp at e
      omega
  · have e' : dec l = _ := e
    match l, hn with
    | a :: b :: c :: r, _ =>
      refine .inr ?_
      rw [e']
      refine ⟨by simp, by simp, ⟨h1, h2, h3, rfl⟩, fun e => ?_⟩
      simp at e h1 h2 h3
      have q1 := more_pos (b := a.toNat) (by omega)
      have q2 := follows_pos h2
      have q3 := follows_pos h3
      have hx : more a.toNat = 2 → 224 ≤ a.toNat ∧ a.toNat ≤ 239 := by
        intro hh; unfold more at hh; repeat' split at hh
        all_goals omega
      have := hx h1
      have ea : a = 239 := UInt8.toNat_inj.1 (by show _ = 239; omega)
      have eb : b = 191 := UInt8.toNat_inj.1 (by show _ = 191; omega)
      have ec : c = 189 := UInt8.toNat_inj.1 (by show _ = 189; omega)
      subst ea; subst eb; subst ec
      simp [own]
  · have e' : dec l = _ := e
    match l, hn with
    | a :: b :: c :: d :: r, _ =>
      refine .inr ?_
      rw [e']
      refine ⟨by simp, by simp, ⟨h1, h2, h3, h4, rfl⟩, fun e => ?_⟩
      simp at e h1 h2
      unfold follows low high at h2
      have h2 := of_decide_eq_true h2
      have hx : more a.toNat = 3 → 240 ≤ a.toNat ∧ a.toNat ≤ 244 := by
        intro hh; unfold more at hh; repeat' split at hh
        all_goals omega
      have := hx h1
      rw [if_pos rfl, if_pos rfl] at h2
      repeat' split at h2
      all_goals omega
end Utf
end
section
namespace Wid
def within (r lo hi : Int) : Bool := decide (lo ≤ r) && decide (r ≤ hi)
def isNone (r : Int) : Bool := decide (r < 32) || (within r 127 159 || (within r 55296 57343 || decide (1114111 < r)))
def isMark (r : Int) : Bool := within r 768 879 || (within r 6832 6911 || (within r 8203 8207 || (within r 8400 8447 || (within r 65024 65039 || within r 65056 65071))))
def isWide (r : Int) : Bool := within r 4352 4447 || (within r 11904 12350 || (within r 12353 42191 || (within r 44032 55203 || (within r 63744 64255 || (within r 65072 65135 || (within r 65280 65376 || (within r 65504 65510 || (within r 127744 128591 || (within r 129280 129535 || within r 131072 262141)))))))))
def wid (r : Int) : Int := bif isNone r then -1 else bif isMark r then 0 else bif isWide r then 2 else 1
def adds (r : Int) : Int := bif isNone r then 0 else bif isMark r then 0 else bif isWide r then 2 else 1
theorem adds_wid (r : Int) : max 0 (wid r) = adds r := by
  unfold wid adds
  cases isNone r <;> cases isMark r <;> cases isWide r <;> decide
theorem adds_bd (r : Int) : 0 ≤ adds r ∧ adds r ≤ 2 := by
  unfold adds
  cases isNone r <;> cases isMark r <;> cases isWide r <;> decide
def pairs (r : Int) : List Int → Bool
  | lo :: hi :: l => within r lo hi || pairs r l
  | _ => false
def sums : Nat → List UInt8 → Int
  | 0, _ => 0
  | n + 1, l => if l = [] then 0 else adds (Utf.dec l).1 + sums n (l.drop (Utf.dec l).2)
def text (l : List UInt8) : Int := sums l.length l
theorem dec_pos {l : List UInt8} (h : l ≠ []) : 1 ≤ (Utf.dec l).2 := by
  rcases Utf.dec_rune l h with ⟨e, _⟩ | ⟨_, h1, _⟩
  · rw [e]; exact Nat.le_refl _
  · exact h1
theorem dec_le {l : List UInt8} (h : l ≠ []) : (Utf.dec l).2 ≤ l.length := by
  rcases Utf.dec_rune l h with ⟨e, _⟩ | ⟨h1, _⟩
  · rw [e]; exact List.length_pos_iff.2 h
  · exact h1
theorem sums_enough : ∀ (n : Nat) (l : List UInt8), l.length ≤ n → sums n l = sums l.length l
  | 0, l, h => by
    have : l = [] := List.eq_nil_of_length_eq_zero (by omega)
    subst this; rfl
  | n + 1, l, h => by
    by_cases hl : l = []
    · subst hl; simp [sums]
    · have h1 := dec_pos hl
      have h2 : l.length ≠ 0 := fun e => hl (List.eq_nil_of_length_eq_zero e)
      obtain ⟨m, hm⟩ : ∃ m, l.length = m + 1 := ⟨l.length - 1, by omega⟩
      rw [hm]
      simp only [sums, if_neg hl]
      have hd : (l.drop (Utf.dec l).2).length ≤ m := by rw [List.length_drop]; omega
      rw [sums_enough n _ (by omega), sums_enough m _ hd]
theorem text_nil : text [] = 0 := rfl
theorem text_step {l : List UInt8} (h : l ≠ []) : text l = adds (Utf.dec l).1 + text (l.drop (Utf.dec l).2) := by
  have h1 := dec_pos h
  have h2 : l.length ≠ 0 := fun e => h (List.eq_nil_of_length_eq_zero e)
  obtain ⟨m, hm⟩ : ∃ m, l.length = m + 1 := ⟨l.length - 1, by omega⟩
  unfold text
  rw [hm]
  simp only [sums, if_neg h]
  rw [sums_enough m _ (by rw [List.length_drop]; omega)]
theorem text_bd : ∀ (n : Nat) (l : List UInt8), l.length ≤ n → 0 ≤ text l ∧ text l ≤ 2 * l.length
  | 0, l, h => by
    have : l = [] := List.eq_nil_of_length_eq_zero (by omega)
    subst this; simp [text_nil]
  | n + 1, l, h => by
    by_cases hl : l = []
    · subst hl; simp [text_nil]
    · have h1 := dec_pos hl
      have h2 := dec_le hl
      have h3 := text_bd n (l.drop (Utf.dec l).2) (by rw [List.length_drop]; omega)
      rw [List.length_drop] at h3
      have h4 := adds_bd (Utf.dec l).1
      rw [text_step hl]
      omega
theorem text_bound (l : List UInt8) : 0 ≤ text l ∧ text l ≤ 2 * l.length := text_bd l.length l (Nat.le_refl _)
theorem follows_1_is {f b : Nat} (h : Utf.follows f 1 b = true) : 128 ≤ b ∧ b ≤ 191 ∧ (f = 224 → 160 ≤ b) ∧ (f = 240 → 144 ≤ b) ∧ (f = 237 → b ≤ 159) ∧ (f = 244 → b ≤ 143) := by
  have h := Utf.follows_iff.1 h
  simp only [Utf.low, Utf.high, if_true] at h
  repeat' split at h
  all_goals omega
theorem more_is {f n : Nat} (h : Utf.more f = n + 1) : (n = 0 ∧ 194 ≤ f ∧ f ≤ 223) ∨ (n = 1 ∧ 224 ≤ f ∧ f ≤ 239) ∨ (n = 2 ∧ 240 ≤ f ∧ f ≤ 244) := by
  unfold Utf.more at h
  repeat' split at h
  all_goals omega
theorem dec_head {l : List UInt8} {r : Nat} (h : Utf.Rune l r) (x : List UInt8) : Utf.dec (l ++ x) = (r, l.length) := by
  unfold Utf.dec
  match l, h with
  | [b], ⟨h0, e⟩ =>
    subst e
    simp [Lib.decodeN, h0]
  | [f, g], ⟨hm, h1, e⟩ =>
    have a := more_is (n := 0) hm
    have b := follows_1_is h1
    have e' : r = f.toNat % 32 * 64 + g.toNat % 64 := e
    simp only [List.cons_append, List.nil_append, List.getD_cons_zero, List.getD_cons_succ, List.length_cons, List.length_nil]
    unfold Lib.decodeN
    rw [if_neg (by omega), if_pos (by omega), if_pos (by omega), e']
  | [f, g, k], ⟨hm, h1, h2, e⟩ =>
    have a := more_is (n := 1) hm
    have b := follows_1_is h1
    have c := Utf.follows_pos h2
    have e' : r = (f.toNat % 16 * 64 + g.toNat % 64) * 64 + k.toNat % 64 := e
    simp only [List.cons_append, List.nil_append, List.getD_cons_zero, List.getD_cons_succ, List.length_cons, List.length_nil]
    unfold Lib.decodeN
    rw [if_neg (by omega), if_neg (by omega), if_pos (by omega), if_pos (by omega), e']
    exact Prod.ext (by show (_ : Nat) = _; omega) rfl
  | [f, g, k, j], ⟨hm, h1, h2, h3, e⟩ =>
    have a := more_is (n := 2) hm
    have b := follows_1_is h1
    have c := Utf.follows_pos h2
    have d := Utf.follows_pos h3
    have e' : r = ((f.toNat % 8 * 64 + g.toNat % 64) * 64 + k.toNat % 64) * 64 + j.toNat % 64 := e
    simp only [List.cons_append, List.nil_append, List.getD_cons_zero, List.getD_cons_succ, List.length_cons, List.length_nil]
    unfold Lib.decodeN
    rw [if_neg (by omega), if_neg (by omega), if_neg (by omega), if_pos (by omega), if_pos (by omega), e']
    exact Prod.ext (by show (_ : Nat) = _; omega) rfl
theorem text_more {l : List UInt8} (t : List UInt8) (h : l ≠ []) (hk : (Utf.dec l).2 ≤ l.length) (hr : Utf.Rune (l.take (Utf.dec l).2) (Utf.dec l).1) :
    text (l ++ t) = adds (Utf.dec l).1 + text (l.drop (Utf.dec l).2 ++ t) := by
  have hs : l ++ t = l.take (Utf.dec l).2 ++ (l.drop (Utf.dec l).2 ++ t) := by rw [← List.append_assoc, List.take_append_drop]
  have hd : Utf.dec (l ++ t) = ((Utf.dec l).1, (Utf.dec l).2) := by
    rw [hs, dec_head hr, List.length_take, Nat.min_eq_left hk]
  rw [text_step (by simp [h]), hd]
  simp only []
  rw [List.drop_append_of_le_length hk]
theorem text_ab : text [97, 98] = 2 := by decide
end Wid
end
end Go.Proofs.YtjcfbeiljdohcaaDoor
