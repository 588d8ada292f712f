/- The rune that bytes are just, as plain lists; that to encode it gives them back. -/
import Derived.Test.YtjodbmfjdpbbnaaDoorUtfPlain
namespace Go.Proofs.YtjodbmfjdpbbnaaDoor
namespace Utf

/-- The rune whose bytes these are, no more and no fewer. -/
def wholeOf : List UInt8 → Option Nat
  | [b] => if b.toNat < 128 then some b.toNat else none
  | [f, g] => if more f.toNat = 1 ∧ follows f.toNat 1 g.toNat = true then some (value [f] g) else none
  | [f, g, k] => if more f.toNat = 2 ∧ follows f.toNat 1 g.toNat = true ∧ follows f.toNat 2 k.toNat = true then some (value [f, g] k) else none
  | [f, g, k, j] => if more f.toNat = 3 ∧ follows f.toNat 1 g.toNat = true ∧ follows f.toNat 2 k.toNat = true ∧ follows f.toNat 3 j.toNat = true then some (value [f, g, k] j) else none
  | _ => none
theorem ite_some_iff {c : Prop} [Decidable c] {a r : Nat} : (if c then some a else none) = some r ↔ c ∧ r = a := by
  by_cases h : c
  · rw [if_pos h]; exact ⟨fun e => ⟨h, by injection e with e; exact e.symm⟩, fun e => by rw [e.2]⟩
  · rw [if_neg h]; exact ⟨(fun e => by cases e), fun e => absurd e.1 h⟩
theorem rune_iff (l : List UInt8) (r : Nat) : Rune l r ↔ wholeOf l = some r := by
  match l with
  | [] => exact ⟨fun h => h.elim, fun h => by cases h⟩
  | [b] => exact ite_some_iff.symm
  | [f, g] => exact ⟨fun h => ite_some_iff.2 ⟨⟨h.1, h.2.1⟩, h.2.2⟩, fun h => by have := ite_some_iff.1 h; exact ⟨this.1.1, this.1.2, this.2⟩⟩
  | [f, g, k] => exact ⟨fun h => ite_some_iff.2 ⟨⟨h.1, h.2.1, h.2.2.1⟩, h.2.2.2⟩, fun h => by have := ite_some_iff.1 h; exact ⟨this.1.1, this.1.2.1, this.1.2.2, this.2⟩⟩
  | [f, g, k, j] => exact ⟨fun h => ite_some_iff.2 ⟨⟨h.1, h.2.1, h.2.2.1, h.2.2.2.1⟩, h.2.2.2.2⟩, fun h => by have := ite_some_iff.1 h; exact ⟨this.1.1, this.1.2.1, this.1.2.2.1, this.1.2.2.2, this.2⟩⟩
  | _ :: _ :: _ :: _ :: _ :: _ => exact ⟨fun h => h.elim, fun h => by cases h⟩

theorem more_is {f n : Nat} (h : more f = n + 1) : (n = 0 ∧ 194 ≤ f ∧ f ≤ 223) ∨ (n = 1 ∧ 224 ≤ f ∧ f ≤ 239) ∨ (n = 2 ∧ 240 ≤ f ∧ f ≤ 244) := by
  unfold more at h
  repeat' split at h
  all_goals omega
theorem follows_1_of {f b : Nat} (h : follows f 1 b = true) : 128 ≤ b ∧ b ≤ 191 ∧ (f = 224 → 160 ≤ b) ∧ (f = 240 → 144 ≤ b) ∧ (f = 237 → b ≤ 159) ∧ (f = 244 → b ≤ 143) := by
  have h := follows_iff.1 h
  simp only [low, high, if_true] at h
  repeat' split at h
  all_goals omega

theorem byte_of {n : Nat} {f : UInt8} (h : n = f.toNat) : UInt8.ofNat n = f := by subst h; simp
/-- To encode a whole rune gives its bytes back. -/
theorem encode_rune {l : List UInt8} {r : Nat} (h : Rune l r) : (Utf8.encode r).data.toList = l := by
  match l, h with
  | [b], ⟨h0, e⟩ =>
    subst e
    have hv : Utf8.valid (b.toNat : Int) = true := by simp [Utf8.valid]; omega
    simp [Utf8.encode, hv, h0]
  | [f, g], ⟨hm, h1, e⟩ =>
    have a := more_is (n := 0) hm
    have b := follows_1_of h1
    have e' : r = f.toNat % 32 * 64 + g.toNat % 64 := e
    have hv : Utf8.valid (r : Int) = true := by simp [Utf8.valid]; omega
    simp only [Utf8.encode, hv, if_true, Int.toNat_natCast]
    rw [if_neg (by omega), if_pos (by omega)]
    simp only [byte_of (f := f) (n := 192 + r / 64) (by omega), byte_of (f := g) (n := 128 + r % 64) (by omega)]
  | [f, g, k], ⟨hm, h1, h2, e⟩ =>
    have a := more_is (n := 1) hm
    have b := follows_1_of h1
    have c := follows_pos h2
    have e' : r = (f.toNat % 16 * 64 + g.toNat % 64) * 64 + k.toNat % 64 := e
    have hv : Utf8.valid (r : Int) = true := by simp [Utf8.valid]; omega
    simp only [Utf8.encode, hv, if_true, Int.toNat_natCast]
    rw [if_neg (by omega), if_neg (by omega), if_pos (by omega)]
    simp only [byte_of (f := f) (n := 224 + r / 4096) (by omega), byte_of (f := g) (n := 128 + r / 64 % 64) (by omega), byte_of (f := k) (n := 128 + r % 64) (by omega)]
  | [f, g, k, j], ⟨hm, h1, h2, h3, e⟩ =>
    have a := more_is (n := 2) hm
    have b := follows_1_of h1
    have c := follows_pos h2
    have d := follows_pos h3
    have e' : r = ((f.toNat % 8 * 64 + g.toNat % 64) * 64 + k.toNat % 64) * 64 + j.toNat % 64 := e
    have hv : Utf8.valid (r : Int) = true := by simp [Utf8.valid]; omega
    simp only [Utf8.encode, hv, if_true, Int.toNat_natCast]
    rw [if_neg (by omega), if_neg (by omega), if_neg (by omega)]
    simp only [byte_of (f := f) (n := 240 + r / 262144) (by omega), byte_of (f := g) (n := 128 + r / 4096 % 64) (by omega), byte_of (f := k) (n := 128 + r / 64 % 64) (by omega), byte_of (f := j) (n := 128 + r % 64) (by omega)]
/-- What is decoded anywhere is a rune, by its own bytes. -/
theorem dec_whole (l : List UInt8) (h : l ≠ []) : wholeOf (Utf8.encode (dec l).1).data.toList = some (dec l).1 := by
  rcases dec_rune l h with ⟨e, _⟩ | ⟨_, _, hr, _⟩
  · rw [e]; decide
  · rw [encode_rune hr]; exact (rune_iff _ _).1 hr
theorem rune_len {l : List UInt8} {r : Nat} (h : Rune l r) : 1 ≤ l.length ∧ l.length ≤ 4 := by
  match l, h with
  | [_], _ => simp
  | [_, _], _ => simp
  | [_, _, _], _ => simp
  | [_, _, _, _], _ => simp
/-- A whole rune is decoded as itself. -/
theorem dec_self {l : List UInt8} {r : Nat} (h : Rune l r) : (dec l).1 = r := by
  have hl : l ≠ [] := by rintro rfl; exact h
  have ha := h.all_ (p := []) rfl
  rcases dec_rune l hl with ⟨e, ho⟩ | ⟨hk, h1, hr, _⟩
  · exfalso
    unfold dec at e
    match l, h with
    | [b], ⟨h0, _⟩ => simp [Lib.decodeN, h0] at e; omega
    | [f, g], ⟨hm, h1, _⟩ =>
      have a := more_is (n := 0) hm
      have b := follows_1_of h1
      simp only [Lib.decodeN, List.getD_cons_zero, List.getD_cons_succ, List.length_cons, List.length_nil] at e
      repeat' split at e
      all_goals first | omega | (simp at e; try omega)
    | [f, g, k], ⟨hm, h1, h2, _⟩ =>
      have a := more_is (n := 1) hm
      have b := follows_1_of h1
      have c := follows_pos h2
      simp only [Lib.decodeN, List.getD_cons_zero, List.getD_cons_succ, List.length_cons, List.length_nil] at e
      repeat' split at e
      all_goals first | omega | (simp at e; try omega)
    | [f, g, k, j], ⟨hm, h1, h2, h3, _⟩ =>
      have a := more_is (n := 2) hm
      have b := follows_1_of h1
      have c := follows_pos h2
      have d := follows_pos h3
      simp only [Lib.decodeN, List.getD_cons_zero, List.getD_cons_succ, List.length_cons, List.length_nil] at e
      repeat' split at e
      all_goals first | omega | (simp at e; try omega)
  · have hb := hr.all_ (p := []) rfl
    have hsplit := all_append [] (l.take (dec l).2) (l.drop (dec l).2)
    rw [List.take_append_drop, ha, hb] at hsplit
    have := congrArg (fun x => x.1) hsplit
    simp [brk] at this
    omega
/-- A byte behind what may be: longer, whole, or neither. -/
theorem whole_snoc {p : List UInt8} (b : UInt8) (hp : fits p = true) :
    (isPart (p ++ [b]) = true → next p b = ([], p ++ [b])) ∧
    (∀ r, wholeOf (p ++ [b]) = some r → next p b = ([(r : Int)], [])) ∧
    (isPart (p ++ [b]) = false → wholeOf (p ++ [b]) = none → next p b = (brk p ++ (next [] b).1, (next [] b).2)) := by
  match p, hp with
  | [], _ =>
    refine ⟨fun h => ?_, fun r h => ?_, fun _ _ => by simp [brk]⟩
    · have h : 0 < more b.toNat := by simpa [isPart] using h
      rw [next_nil, lead_start h]; rfl
    · have h : b.toNat < 128 ∧ b.toNat = r := by simpa [wholeOf] using h
      rw [next_nil]; unfold start; rw [if_pos h.1, h.2]
  | f :: r, hp =>
    have hp : isPart (f :: r) = true := by rcases fits_cases hp with e | e; cases e; exact e
    have hm := part_more hp
    refine ⟨fun h => ?_, fun x h => ?_, fun h1 h2 => ?_⟩
    · obtain ⟨_, hf, hlt⟩ := snoc_part h
      rw [next_cons, hf, if_pos rfl, if_pos hlt]
    · have hr := (rune_iff _ _).2 h
      match r, hr with
      | [], ⟨a, b1, c⟩ => rw [next_cons, if_pos (by simpa using b1), if_neg (by simp [a]), c]
      | [g], ⟨a, b1, b2, c⟩ => rw [next_cons, if_pos (by simpa using b2), if_neg (by simp [a]), c]
      | [g, k], ⟨a, b1, b2, b3, c⟩ => rw [next_cons, if_pos (by simpa using b3), if_neg (by simp [a]), c]
    · have hf : follows f.toNat (r.length + 1) b.toNat = false := by
        cases hf : follows f.toNat (r.length + 1) b.toNat
        · rfl
        · exfalso
          by_cases hlt : r.length + 1 < more f.toNat
          · rw [part_snoc hp hf hlt] at h1; cases h1
          · have hm : more f.toNat = r.length + 1 := by omega
            have hr : ∃ x, wholeOf (f :: r ++ [b]) = some x := by
              match r, hp, hf, hm with
              | [], _, hf, hm => exact ⟨_, (rune_iff _ _).1 ⟨by simpa using hm, by simpa using hf, rfl⟩⟩
              | [g], hp, hf, hm => simp [isPart] at hp; exact ⟨_, (rune_iff _ _).1 ⟨by simpa using hm, hp.2, by simpa using hf, rfl⟩⟩
              | [g, k], hp, hf, hm => simp [isPart] at hp; exact ⟨_, (rune_iff _ _).1 ⟨by simpa using hm, hp.2.1, hp.2.2, by simpa using hf, rfl⟩⟩
              | _ :: _ :: _ :: _, hp, _, _ => simp [isPart] at hp
            obtain ⟨x, hx⟩ := hr
            rw [hx] at h2; cases h2
      rw [next_cons, hf]; simp [brk, next_nil]
end Utf
end Go.Proofs.YtjodbmfjdpbbnaaDoor
