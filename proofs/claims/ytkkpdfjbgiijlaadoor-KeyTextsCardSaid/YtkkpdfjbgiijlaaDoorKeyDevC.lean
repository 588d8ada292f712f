/- What a key sends, to the developers: ahead, typed, moving, pasting, alone, sent. -/
import Derived.Test.YtkkpdfjbgiijlaaDoorKeyDevB
import Derived.Laws.Runes
namespace Go.Proofs.YtkkpdfjbgiijlaaDoor
set_option maxRecDepth 100000
open Go.RowKit Tri KeyM
namespace Key

theorem ret_str2 {a b : ByteArray} (h : a = b) : Ending.returned (.string a) = .returned (.string b) := by rw [h]
theorem alt_size (c : Int) : (altOf c).size ≤ 1 := by
  unfold altOf; split <;> decide
theorem ahead_any (c : Int) (w : World) : Calls Tryd.prog 32 #[.int .i64 c] w fun e w' => e = .returned (.string (altOf c)) ∧ w = w' := by
  obtain ⟨f, hf⟩ : ∃ f, (bits .and .i64 c 2 != 0) = f := ⟨_, rfl⟩
  have HA : Hid (altOf c = if f = true then ⟨#[27]⟩ else ⟨#[]⟩) := Lib.hid (by rw [← hf]; rfl)
  cases f
  all_goals
    go_enter Tryd.func32, Tryd.ntmps32
    go_wp2_with fail
    go_ret
    exact ⟨ret_str2 (by rw [HA.out]; rfl), rfl⟩
def typedR (b c : Int) : Int := if (hasF c 4 && (rng b 64 95 || rng b 97 122)) = true then b % 32 else b
theorem i32_and31 (x : Int) (h₀ : 0 ≤ x) (h₁ : x < 2 ^ 30) : bits .and .i32 x 31 = x % 32 := bits_mask .i32 31 (by decide) wraps_i32 5 (by decide) x h₀ (by omega)
theorem ret_i32 {a b : Int} (h : a = b) : Ending.returned (.int .i32 a) = .returned (.int .i32 b) := by rw [h]
set_option maxHeartbeats 1600000 in
theorem typed_any (b c : Int) (hb : 0 ≤ b ∧ b ≤ 1114111) (w : World) : Calls Tryd.prog 33 #[.int .i32 b, .int .i64 c] w fun e w' => e = .returned (.int .i32 (typedR b c)) ∧ w = w' := by
  obtain ⟨f, hf⟩ : ∃ f, (bits .and .i64 c 4 != 0) = f := ⟨_, rfl⟩
  have HT : Hid (typedR b c = if (f && (rng b 64 95 || rng b 97 122)) = true then b % 32 else b) := Lib.hid (by rw [← hf]; rfl)
  have h31 := i32_and31 b hb.1 (by omega)
  generalize typedR b c = t at HT ⊢
  cases f with
  | false =>
    have HZ : Hid (t = b) := HT
    clear HT
    go_enter Tryd.func33, Tryd.ntmps33
    go_wp2_with fail
    go_ret
    exact ⟨ret_i32 HZ.out.symm, rfl⟩
  | true =>
    by_cases h1 : 64 ≤ b
    · by_cases h2 : b ≤ 95
      · have HZ : Hid (t = b % 32) := Lib.hid (by rw [HT.out, show rng b 64 95 = true from rng_yes.2 ⟨h1, h2⟩]; rfl)
        clear HT hb
        go_enter Tryd.func33, Tryd.ntmps33
        go_wp2_with fail
        go_ret
        exact ⟨ret_i32 HZ.out.symm, rfl⟩
      · have hd2 : decide (b ≤ 95) = false := decide_eq_false h2
        by_cases h3 : 97 ≤ b
        · by_cases h4 : b ≤ 122
          · have HZ : Hid (t = b % 32) := Lib.hid (by rw [HT.out, show rng b 97 122 = true from rng_yes.2 ⟨h3, h4⟩]; cases rng b 64 95 <;> rfl)
            clear HT hb
            go_enter Tryd.func33, Tryd.ntmps33
            go_wp2_with fail
            go_ret
            exact ⟨ret_i32 HZ.out.symm, rfl⟩
          · have HZ : Hid (t = b) := Lib.hid (by rw [HT.out, show rng b 97 122 = false from rng_no.2 (by omega), show rng b 64 95 = false from rng_no.2 (by omega)]; rfl)
            have hd4 : decide (b ≤ 122) = false := decide_eq_false h4
            clear HT hb
            go_enter Tryd.func33, Tryd.ntmps33
            go_wp2_with fail
            go_ret
            exact ⟨ret_i32 HZ.out.symm, rfl⟩
        · have HZ : Hid (t = b) := Lib.hid (by rw [HT.out, show rng b 97 122 = false from rng_no.2 (by omega), show rng b 64 95 = false from rng_no.2 (by omega)]; rfl)
          have hd3 : decide (97 ≤ b) = false := decide_eq_false h3
          clear HT hb
          go_enter Tryd.func33, Tryd.ntmps33
          go_wp2_with fail
          go_ret
          exact ⟨ret_i32 HZ.out.symm, rfl⟩
    · have HZ : Hid (t = b) := Lib.hid (by rw [HT.out, show rng b 97 122 = false from rng_no.2 (by omega), show rng b 64 95 = false from rng_no.2 (by omega)]; rfl)
      have hd1 : decide (64 ≤ b) = false := decide_eq_false h1
      have hd3 : decide (97 ≤ b) = false := decide_eq_false (by omega)
      clear HT hb
      go_enter Tryd.func33, Tryd.ntmps33
      go_wp2_with fail
      go_ret
      exact ⟨ret_i32 HZ.out.symm, rfl⟩
theorem enc_low : ∀ n : Fin 32, Utf8.encode ((n.val : Nat) : Int) = ⟨#[UInt8.ofNat n.val]⟩ := by
  have : ∀ n : Fin 32, (Utf8.encode ((n.val : Nat) : Int)).data.toList = [UInt8.ofNat n.val] := of_decide_eq_true (by kernel_rfl)
  intro n
  have h := this n
  rcases q : Utf8.encode ((n.val : Nat) : Int) with ⟨⟨l⟩⟩
  rw [q] at h
  have h : l = [UInt8.ofNat n.val] := h
  rw [h]
theorem enc_typed (b c : Int) (hb : 0 ≤ b ∧ b ≤ 1114111) (a : Int) : Utf8.encode (typedR b c) = runeK ⟨a, b, c⟩ := by
  unfold typedR runeK ctrlOk
  split
  · unfold low5
    rw [i64_and31 b hb.1 (by omega)]
    have := enc_low ⟨(b % 32).toNat, by omega⟩
    simp only at this
    rw [← this, show (((b % 32).toNat : Nat) : Int) = b % 32 by omega]
  · rfl
set_option maxHeartbeats 1600000 in
theorem moving_any (r : Int) (d : UInt8) (he : Utf8.encode r = ⟨#[d]⟩) (c modes : Int) (hc : 0 ≤ c ∧ c ≤ 7) (w : World) : Calls Tryd.prog 30 #[.int .i32 r, .int .i64 c, .int .i64 modes] w fun e w' =>
    e = .returned (.string (if c ≠ 0 then ⟨#[27, 91, 49, 59, UInt8.ofNat (49 + c.toNat), d]⟩ else if hasF modes 16 = true then ⟨#[27, 79, d]⟩ else ⟨#[27, 91, d]⟩)) ∧ w = w' := by
  obtain ⟨f, hf⟩ : ∃ f, (bits .and .i64 modes 16 != 0) = f := ⟨_, rfl⟩
  have HF : Hid (hasF modes 16 = f) := Lib.hid (by rw [← hf]; rfl)
  obtain ⟨s, hs⟩ : ∃ s, (if c ≠ 0 then (⟨#[27, 91, 49, 59, UInt8.ofNat (49 + c.toNat), d]⟩ : ByteArray) else if hasF modes 16 = true then ⟨#[27, 79, d]⟩ else ⟨#[27, 91, d]⟩) = s := ⟨_, rfl⟩
  rw [hs]
  by_cases h0 : c = 0
  · have hc0 : (c != 0) = false := by rw [h0]; rfl
    have HS : Hid (s = if f = true then ⟨#[27, 79, d]⟩ else ⟨#[27, 91, d]⟩) := Lib.hid (by rw [← hs, if_neg (fun q => q h0), HF.out])
    clear h0 hc hs
    cases f
    all_goals
      go_enter Tryd.func30, Tryd.ntmps30
      go_wp2_with fail
      go_ret
      exact ⟨ret_str2 (by rw [HS.out]; rfl), rfl⟩
  · have hc0 : (c != 0) = true := by rw [bne_iff_ne]; exact h0
    obtain ⟨n, rfl⟩ := Int.eq_ofNat_of_zero_le hc.1
    have HD : Hid (∀ W, Calls Tryd.prog 25 #[.int .i64 ((n : Int) + 1)] W fun e w' => e = .returned (.string ⟨#[UInt8.ofNat (49 + n)]⟩) ∧ W = w') := Lib.hid fun W => by
      have := itoa_digit (n + 1) (by omega) W
      rw [show (((n + 1 : Nat) : Int)) = (n : Int) + 1 by omega] at this
      unfold dig at this
      rw [show 48 + (n + 1) = 49 + n by omega] at this
      exact this
    have HS : Hid (s = ⟨#[27, 91, 49, 59, UInt8.ofNat (49 + n), d]⟩) := Lib.hid (by rw [← hs, if_pos h0, Int.toNat_natCast])
    have hw : IntKind.i64.wrap ((n : Int) + 1) = (n : Int) + 1 := by rw [IntKind.wrap_i64]; omega
    generalize UInt8.ofNat (49 + n) = g at HD HS
    clear h0 hs
    go_enter Tryd.func30, Tryd.ntmps30
    go_wp2_with fail
    refine (HD.out _).mono ?_; rintro e w' ⟨rfl, rfl⟩
    go_wp2_with fail
    go_ret
    exact ⟨ret_str2 (by rw [HS.out]; rfl), rfl⟩
theorem pasting_any (r : Int) (d : UInt8) (he : Utf8.encode r = ⟨#[d]⟩) (modes : Int) (w : World) : Calls Tryd.prog 31 #[.int .i32 r, .int .i64 modes] w fun e w' =>
    e = .returned (.string (if hasF modes 128 = true then ⟨#[27, 91, 50, 48, d, 126]⟩ else ⟨#[]⟩)) ∧ w = w' := by
  obtain ⟨f, hf⟩ : ∃ f, (bits .and .i64 modes 128 == 0) = f := ⟨_, rfl⟩
  have HF : Hid (hasF modes 128 = !f) := Lib.hid (by rw [← hf]; rfl)
  obtain ⟨s, hs⟩ : ∃ s, (if hasF modes 128 = true then (⟨#[27, 91, 50, 48, d, 126]⟩ : ByteArray) else ⟨#[]⟩) = s := ⟨_, rfl⟩
  rw [hs]
  have HS : Hid (s = if (!f) = true then ⟨#[27, 91, 50, 48, d, 126]⟩ else ⟨#[]⟩) := Lib.hid (by rw [← hs, HF.out])
  clear hs HF
  cases f
  all_goals
    go_enter Tryd.func31, Tryd.ntmps31
    go_wp2_with fail
    go_ret
    exact ⟨ret_str2 (by rw [HS.out]; rfl), rfl⟩
/-- What a single key sends: by its byte. -/
def aloneS (x : Int) (d : UInt8) (c modes : Int) : ByteArray := if (decide (x = 9) && hasF c 1) = true then ⟨#[27, 91, 90]⟩ else if (decide (x = 13) && hasF modes 4) = true then altOf c ++ ⟨#[13, 10]⟩ else altOf c ++ ⟨#[d]⟩
set_option maxHeartbeats 1600000 in
theorem alone_any (x : Int) (d : UInt8) (he : Utf8.encode x = ⟨#[d]⟩) (c modes : Int) (w : World) : Calls Tryd.prog 34 #[.int .i32 x, .int .i64 c, .int .i64 modes] w fun e w' => e = .returned (.string (aloneS x d c modes)) ∧ w = w' := by
  obtain ⟨f1, h1⟩ : ∃ f, (bits .and .i64 c 1 != 0) = f := ⟨_, rfl⟩
  obtain ⟨f4, h4⟩ : ∃ f, (bits .and .i64 modes 4 != 0) = f := ⟨_, rfl⟩
  have HA := Lib.hid (ahead_any c)
  have hal := alt_size c
  have hg1 : ¬ 9223372036854775807 < (altOf c).size + 1 := by omega
  have hg2 : ¬ 9223372036854775807 < (altOf c).size + 2 := by omega
  have HS : Hid (aloneS x d c modes = if (decide (x = 9) && f1) = true then ⟨#[27, 91, 90]⟩ else if (decide (x = 13) && f4) = true then altOf c ++ ⟨#[13, 10]⟩ else altOf c ++ ⟨#[d]⟩) := Lib.hid (by rw [← h1, ← h4]; rfl)
  generalize aloneS x d c modes = s at HS ⊢
  generalize altOf c = al at HA HS hg1 hg2 hal
  clear hal
  by_cases e9 : x = 9
  · have q9 : (x == 9) = true := by rw [e9]; rfl
    have q13 : (x == 13) = false := by rw [e9]; rfl
    cases f1 with
    | true =>
      have HZ : Hid (s = ⟨#[27, 91, 90]⟩) := Lib.hid (by rw [HS.out, decide_eq_true e9]; rfl)
      clear HS e9
      go_enter Tryd.func34, Tryd.ntmps34
      go_wp2_with fail
      go_ret
      exact ⟨ret_str2 HZ.out.symm, rfl⟩
    | false =>
      have HZ : Hid (s = al ++ ⟨#[d]⟩) := Lib.hid (by rw [HS.out, e9]; rfl)
      clear HS e9
      go_enter Tryd.func34, Tryd.ntmps34
      go_wp2_with fail
      refine (HA.out _).mono ?_; rintro e w' ⟨rfl, rfl⟩
      go_wp2_with fail
      go_ret
      exact ⟨ret_str2 HZ.out.symm, rfl⟩
  · have q9 : (x == 9) = false := by rw [beq_eq_false_iff_ne]; exact e9
    by_cases e13 : x = 13
    · have q13 : (x == 13) = true := by rw [e13]; rfl
      have HZ : Hid (s = if f4 = true then al ++ ⟨#[13, 10]⟩ else al ++ ⟨#[d]⟩) := Lib.hid (by rw [HS.out, e13]; cases f4 <;> rfl)
      clear HS e9 e13
      cases f4
      all_goals
        go_enter Tryd.func34, Tryd.ntmps34
        go_wp2_with fail
        refine (HA.out _).mono ?_; rintro e w' ⟨rfl, rfl⟩
        go_wp2_with fail
        go_ret
        exact ⟨ret_str2 (by rw [HZ.out]; rfl), rfl⟩
    · have q13 : (x == 13) = false := by rw [beq_eq_false_iff_ne]; exact e13
      have HZ : Hid (s = al ++ ⟨#[d]⟩) := Lib.hid (by rw [HS.out, decide_eq_false e9, decide_eq_false e13]; rfl)
      clear HS e9 e13
      go_enter Tryd.func34, Tryd.ntmps34
      go_wp2_with fail
      refine (HA.out _).mono ?_; rintro e w' ⟨rfl, rfl⟩
      go_wp2_with fail
      go_ret
      exact ⟨ret_str2 HZ.out.symm, rfl⟩
end Key
end Go.Proofs.YtkkpdfjbgiijlaaDoor
