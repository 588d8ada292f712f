/- How cells look, the reference's side: plain, a colour told as numbers. -/
import Derived.Test.YtabplmhmanbmjaaSgrRef2
namespace Go.Proofs.Ytabplmhmanbmjaa
set_option maxRecDepth 100000
open Go.RowKit
namespace Sgr

theorem plain_any (w : World) : Calls Try.prog 19 #[] w fun e w' => e = .returned (.agg #[.int .i64 (-1), .int .i64 (-1), .int .i64 0]) ∧ Below w.heap.size w w' := by
  have hb : Below w.heap.size w (w.alloc (.cells #[.int .i64 (-1), .int .i64 (-1), .int .i64 0] 29)) := (Below.refl _ _).alloc (Nat.le_refl _) _
  have HB := Lib.hid hb
  clear hb
  go_enter Try.func19, Try.ntmps19
  go_wp2_with fail
  refine bodyPost_ret (v := .agg #[.int .i64 (-1), .int .i64 (-1), .int .i64 0]) (by simp [results, Try.results19, go_sem]) rfl ⟨rfl, HB.out⟩

theorem i64_and255 (x : Int) (h₀ : 0 ≤ x) (h₁ : x < 2 ^ 62) : bits .and .i64 x 255 = x % 256 := bits_mask .i64 62 (by decide) wraps_i64 8 (by decide) x h₀ h₁
/-- The numbers that tell a colour. -/
def formOf (c b : Int) : List Int :=
  if c < 0 then [] else if c < 8 then [30 + b + c] else if c < 16 then [82 + b + c] else if c < 256 then [38 + b, 5, c]
  else [38 + b, 2, (c - 256) / 65536, (c - 256) / 256 % 256, (c - 256) % 256]

theorem form_a (c b : Int) (w : World) (hc : -1 ≤ c) (hc' : c ≤ 16777471) (hb : 0 ≤ b) (hb' : b ≤ 10) :
    Calls Try.prog 23 #[.int .i64 c, .int .i64 b] w fun e w' => ∃ x, e = .returned x ∧ Src w' x (formOf c b).length (ints (formOf c b)) ∧ Below w.heap.size w w' := by
  by_cases h0 : c < 0
  · have e : formOf c b = [] := by unfold formOf; rw [if_pos h0]
    rw [e]
    go_enter Try.func23, Try.ntmps23
    go_wp2_with fail
    go_ret
    exact ⟨_, rfl, ⟨rfl, Or.inl ⟨rfl, rfl⟩⟩, Below.refl _ _⟩
  have hd0 : decide (c < 0) = false := decide_eq_false h0
  have hs : ∀ x, Below w.heap.size w (w.alloc x) := fun x => (Below.refl _ _).alloc (Nat.le_refl _) _
  by_cases h1 : c < 8
  · have e : formOf c b = [30 + b + c] := by unfold formOf; rw [if_neg h0, if_pos h1]
    rw [e]
    clear hs e
    go_enter Try.func23, Try.ntmps23
    go_wp2_with fail
    go_ret
    exact ⟨_, rfl, Src.made w (ints [30 + b + c]) _ 1 1 rfl, (Below.refl _ _).alloc (Nat.le_refl _) _⟩
  have hd1 : decide (c < 8) = false := decide_eq_false h1
  by_cases h2 : c < 16
  · have e : formOf c b = [82 + b + c] := by unfold formOf; rw [if_neg h0, if_neg h1, if_pos h2]
    rw [e]
    clear hs e
    go_enter Try.func23, Try.ntmps23
    go_wp2_with fail
    go_ret
    exact ⟨_, rfl, Src.made w (ints [82 + b + c]) _ 1 1 rfl, (Below.refl _ _).alloc (Nat.le_refl _) _⟩
  have hd2 : decide (c < 16) = false := decide_eq_false h2
  by_cases h3 : c < 256
  · have e : formOf c b = [38 + b, 5, c] := by unfold formOf; rw [if_neg h0, if_neg h1, if_neg h2, if_pos h3]
    rw [e]
    clear hs e
    go_enter Try.func23, Try.ntmps23
    go_wp2_with fail
    go_ret
    exact ⟨_, rfl, Src.made w (ints [38 + b, 5, c]) _ 3 3 rfl, (Below.refl _ _).alloc (Nat.le_refl _) _⟩
  have hd3 : decide (c < 256) = false := decide_eq_false h3
  have e : formOf c b = [38 + b, 2, (c - 256) / 65536, (c - 256) / 256 % 256, (c - 256) % 256] := by unfold formOf; rw [if_neg h0, if_neg h1, if_neg h2, if_neg h3]
  rw [e]
  clear hs e
  go_enter Try.func23, Try.ntmps23
  go_wp2_with fail
  go_ret
  rw [i64_and255 _ (by omega) (by omega), i64_and255 (c - 256) (by omega) (by omega)]
  have hm : (c - 256) % 256 = c % 256 := by omega
  exact ⟨_, rfl, Src.made_at w _ (ints [38 + b, 2, (c - 256) / 65536, (c - 256) / 256 % 256, c % 256]) _ _ 5 5 rfl (by rw [hm]; rfl) rfl, (Below.refl _ _).alloc (Nat.le_refl _) _⟩
end Sgr
end Go.Proofs.Ytabplmhmanbmjaa
