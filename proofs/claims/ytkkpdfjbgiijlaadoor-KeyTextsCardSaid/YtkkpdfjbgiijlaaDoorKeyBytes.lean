/- The page's bytes of a key. -/
import Derived.Test.YtkkpdfjbgiijlaaDoorKeyItoa
import Derived.Laws.Cover4
namespace Go.Proofs.YtkkpdfjbgiijlaaDoor
set_option maxRecDepth 100000
open Go.RowKit Tri KeyM
namespace Key

theorem ret_str {a b : ByteArray} (h : a = b) : Ending.returned (.string a) = .returned (.string b) := by rw [h]
/-- 'string([]rune{r})'. -/
theorem run_convert_rune1 {P : Program} (w : World) (src dst e : TypeId) (a : Addr) (cap : Nat) (b : Int) (hs : P.underlying src = some (.slice e)) (he : P.underlying e = some (.int .i32)) (hd : P.underlying dst = some .string)
    (hc : w.cell? a = some (.int .i32 b)) : (convert src dst (.slice (some a) 1 cap)).run P w = .ok (.string (Utf8.encode b)) w := by
  have h := run_convert_runes (P := P) w src dst e a 1 cap [b] (Nat.le_refl _) hs he hd (fun j hj => by
    obtain rfl : j = 0 := by simpa using hj
    rw [add0]; exact hc)
  rw [h]
  have e1 : runesBytes ([b].take 1) = Utf8.encode b := by
    show ByteArray.empty ++ Utf8.encode b = _
    simp
  rw [e1]
theorem has_of {m f : Int} {b : Bool} (h : (bits .and .i64 m f != 0) = b) : hasF m f = b := h
set_option maxHeartbeats 1600000 in
theorem bytes_plain (a b c modes : Int) (w : World) (ha : a = 8 ∨ a = 9 ∨ a = 10 ∨ a = 11) : Calls Tryd.prog 10 #[.agg #[.int .i64 a, .int .i64 b, .int .i64 c], .int .i64 modes] w fun e w' => e = .returned (.string (bytesK ⟨a, b, c⟩ modes)) ∧ Below w.heap.size w w' := by
  have HB : Hid (Below w.heap.size w (w.alloc (kbx ⟨a, b, c⟩))) := Lib.hid ((Below.refl _ _).alloc (Nat.le_refl _) _)
  obtain ⟨f2, h2⟩ : ∃ f, (bits .and .i64 c 2 != 0) = f := ⟨_, rfl⟩
  obtain ⟨f1, h1⟩ : ∃ f, (bits .and .i64 c 1 != 0) = f := ⟨_, rfl⟩
  obtain ⟨f4, h4⟩ : ∃ f, (bits .and .i64 modes 4 != 0) = f := ⟨_, rfl⟩
  obtain ⟨s, hs⟩ : ∃ s, bytesK ⟨a, b, c⟩ modes = s := ⟨_, rfl⟩
  have HS : Hid (s = if a = 8 then altOf c ++ (if f4 = true then ⟨#[13, 10]⟩ else ⟨#[13]⟩) else if a = 9 then (if f1 = true then ⟨#[27, 91, 90]⟩ else altOf c ++ ⟨#[9]⟩) else if a = 10 then altOf c ++ ⟨#[127]⟩ else altOf c ++ ⟨#[27]⟩) := Lib.hid (by
    rw [← hs, ← h4, ← h1]
    rcases ha with rfl | rfl | rfl | rfl <;> rfl)
  have HA : Hid (altOf c = if f2 = true then ⟨#[27]⟩ else ⟨#[]⟩) := Lib.hid (by rw [← h2]; rfl)
  rw [hs]
  clear hs
  rcases ha with rfl | rfl | rfl | rfl <;> cases f2 <;> cases f1 <;> cases f4
  all_goals
    go_enter Tryd.func10, Tryd.ntmps10
    go_wp2_with fail
    go_ret
    exact ⟨ret_str (by rw [HS.out, HA.out]; rfl), HB.out⟩
set_option maxHeartbeats 1600000 in
theorem bytes_paste (b c modes : Int) (w : World) : Calls Tryd.prog 10 #[.agg #[.int .i64 12, .int .i64 b, .int .i64 c], .int .i64 modes] w fun e w' => e = .returned (.string (bytesK ⟨12, b, c⟩ modes)) ∧ Below w.heap.size w w' := by
  have HB : Hid (Below w.heap.size w (w.alloc (kbx ⟨12, b, c⟩))) := Lib.hid ((Below.refl _ _).alloc (Nat.le_refl _) _)
  obtain ⟨f2, h2⟩ : ∃ f, (bits .and .i64 c 2 != 0) = f := ⟨_, rfl⟩
  obtain ⟨f, hf⟩ : ∃ f, (bits .and .i64 modes 128 == 0) = f := ⟨_, rfl⟩
  obtain ⟨s, hs⟩ : ∃ s, bytesK ⟨12, b, c⟩ modes = s := ⟨_, rfl⟩
  have HS : Hid (s = if f = false then (if b = 1 then ⟨#[27, 91, 50, 48, 48, 126]⟩ else ⟨#[27, 91, 50, 48, 49, 126]⟩) else ⟨#[]⟩) := Lib.hid (by
    rw [← hs, ← hf]
    show pasteK b modes = _
    unfold pasteK hasF
    cases q : (bits .and .i64 modes 128 == 0) <;> simp [bne, q])
  rw [hs]
  clear hs
  by_cases hb : b = 1
  · have hb1 : (b == 1) = true := by rw [hb]; rfl
    have HS : Hid (s = if f = false then ⟨#[27, 91, 50, 48, 48, 126]⟩ else ⟨#[]⟩) := Lib.hid (by rw [HS.out, if_pos hb])
    clear hb
    cases f <;> cases f2
    all_goals
      go_enter Tryd.func10, Tryd.ntmps10
      go_wp2_with fail
      go_ret
      exact ⟨ret_str HS.out.symm, HB.out⟩
  · have hb1 : (b == 1) = false := by rw [beq_eq_false_iff_ne]; exact hb
    have HS : Hid (s = if f = false then ⟨#[27, 91, 50, 48, 49, 126]⟩ else ⟨#[]⟩) := Lib.hid (by rw [HS.out, if_neg hb])
    clear hb
    cases f <;> cases f2
    all_goals
      go_enter Tryd.func10, Tryd.ntmps10
      go_wp2_with fail
      go_ret
      exact ⟨ret_str HS.out.symm, HB.out⟩
set_option maxHeartbeats 3200000 in
theorem bytes_go (a b c modes : Int) (w : World) (ha : 2 ≤ a ∧ a ≤ 7) (hc : 0 ≤ c ∧ c ≤ 7) : Calls Tryd.prog 10 #[.agg #[.int .i64 a, .int .i64 b, .int .i64 c], .int .i64 modes] w fun e w' => e = .returned (.string (bytesK ⟨a, b, c⟩ modes)) ∧ Below w.heap.size w w' := by
  have HB : Hid (Below w.heap.size w (w.alloc (kbx ⟨a, b, c⟩))) := Lib.hid ((Below.refl _ _).alloc (Nat.le_refl _) _)
  obtain ⟨f2, h2⟩ : ∃ f, (bits .and .i64 c 2 != 0) = f := ⟨_, rfl⟩
  obtain ⟨f, hf⟩ : ∃ f, (bits .and .i64 modes 16 != 0) = f := ⟨_, rfl⟩
  obtain ⟨s, hs⟩ : ∃ s, bytesK ⟨a, b, c⟩ modes = s := ⟨_, rfl⟩
  have ha' : a = 2 ∨ a = 3 ∨ a = 4 ∨ a = 5 ∨ a = 6 ∨ a = 7 := by omega
  have HS : Hid (s = if c ≠ 0 then ⟨#[27, 91, 49, 59, UInt8.ofNat (49 + c.toNat), lastOf a]⟩ else if f = true then ⟨#[27, 79, lastOf a]⟩ else ⟨#[27, 91, lastOf a]⟩) := Lib.hid (by
    rw [← hs, ← hf]
    rcases ha' with rfl | rfl | rfl | rfl | rfl | rfl <;> rfl)
  rw [hs]
  clear hs ha
  by_cases h0 : c = 0
  · have hc0 : (c != 0) = false := by rw [h0]; rfl
    have HS : Hid (s = if f = true then ⟨#[27, 79, lastOf a]⟩ else ⟨#[27, 91, lastOf a]⟩) := Lib.hid (by rw [HS.out, if_neg (fun q => q h0)])
    clear h0 hc
    rcases ha' with rfl | rfl | rfl | rfl | rfl | rfl <;> cases f2 <;> cases f
    all_goals
      go_enter Tryd.func10, Tryd.ntmps10
      go_wp2_with fail
      go_ret
      exact ⟨ret_str (by rw [HS.out]; rfl), HB.out⟩
  · have hc0 : (c != 0) = true := by rw [bne_iff_ne]; exact h0
    obtain ⟨n, rfl⟩ := Int.eq_ofNat_of_zero_le hc.1
    have HD : Hid (∀ W, Calls Tryd.prog 25 #[.int .i64 (1 + (n : Int))] W fun e w' => e = .returned (.string ⟨#[UInt8.ofNat (49 + n)]⟩) ∧ W = w') := Lib.hid fun W => by
      have := itoa_digit (1 + n) (by omega) W
      rw [show (((1 + n : Nat) : Int)) = 1 + (n : Int) by omega] at this
      unfold dig at this
      rw [show 48 + (1 + n) = 49 + n by omega] at this
      exact this
    have HS : Hid (s = ⟨#[27, 91, 49, 59, UInt8.ofNat (49 + n), lastOf a]⟩) := Lib.hid (by rw [HS.out, if_pos h0, Int.toNat_natCast])
    have hw : IntKind.i64.wrap (1 + (n : Int)) = 1 + (n : Int) := by rw [IntKind.wrap_i64]; omega
    generalize UInt8.ofNat (49 + n) = d at HD HS
    clear h0
    rcases ha' with rfl | rfl | rfl | rfl | rfl | rfl <;> cases f2
    all_goals
      go_enter Tryd.func10, Tryd.ntmps10
      go_wp2_with fail
      refine (HD.out _).mono ?_; rintro e w' ⟨rfl, rfl⟩
      go_wp2_with fail
      go_ret
      exact ⟨ret_str (by rw [HS.out]; rfl), HB.out⟩
set_option maxHeartbeats 3200000 in
theorem bytes_rune (b c modes : Int) (w : World) (hb : 0 ≤ b ∧ b ≤ 1114111) : Calls Tryd.prog 10 #[.agg #[.int .i64 1, .int .i64 b, .int .i64 c], .int .i64 modes] w fun e w' => e = .returned (.string (bytesK ⟨1, b, c⟩ modes)) ∧ Below w.heap.size w w' := by
  have HB : Hid (Below w.heap.size w (w.alloc (kbx ⟨1, b, c⟩))) := Lib.hid ((Below.refl _ _).alloc (Nat.le_refl _) _)
  have HR1 : Hid (Tells 24 #[.int .i64 b, .int .i64 64, .int .i64 95] (rng b 64 95)) := Lib.hid (between_any _ _ _)
  have HR2 : Hid (Tells 24 #[.int .i64 b, .int .i64 97, .int .i64 122] (rng b 97 122)) := Lib.hid (between_any _ _ _)
  obtain ⟨f2, h2⟩ : ∃ f, (bits .and .i64 c 2 != 0) = f := ⟨_, rfl⟩
  obtain ⟨f4, h4⟩ : ∃ f, (bits .and .i64 c 4 != 0) = f := ⟨_, rfl⟩
  obtain ⟨s, hs⟩ : ∃ s, bytesK ⟨1, b, c⟩ modes = s := ⟨_, rfl⟩
  have HS : Hid (s = altOf c ++ (if (f4 && (rng b 64 95 || rng b 97 122)) = true then ⟨#[low5 b]⟩ else Utf8.encode b)) := Lib.hid (by rw [← hs, ← h4]; rfl)
  have HA : Hid (altOf c = if f2 = true then ⟨#[27]⟩ else ⟨#[]⟩) := Lib.hid (by rw [← h2]; rfl)
  rw [hs]
  clear hs
  have hen : (Utf8.encode b).size ≤ 4 := encode_size_le b
  have hbi : IntKind.i32.wrap b = b := by rw [IntKind.wrap_i32]; omega
  have h31a : bits .and .i64 b 31 = b % 32 := i64_and31 b hb.1 (by omega)
  have hw8a : IntKind.u8.wrap (b % 32) = b % 32 := by rw [IntKind.wrap_u8]; omega
  have hw8' : b % 32 = ((low5 b).toNat : Int) := by
    unfold low5; rw [h31a]
    have : (UInt8.ofNat (b % 32).toNat).toNat = (b % 32).toNat := by simp; omega
    rw [this]; omega
  have h31 : bits .and .i64 b 31 = ((low5 b).toNat : Int) := by rw [h31a, hw8']
  have hw8 : IntKind.u8.wrap ((low5 b).toNat : Int) = ((low5 b).toNat : Int) := by rw [← hw8']; exact hw8a
  clear hw8' h31a hw8a
  have hcv := fun (W : World) (hc : W.cell? ⟨w.heap.size + 1, 0, none⟩ = some (.int .u8 (low5 b).toNat)) => run_convert_byte1 (P := Tryd.prog) W 56 9 5 ⟨w.heap.size + 1, 0, none⟩ 1 (low5 b) Tryd.underlying56 Tryd.underlying5 Tryd.underlying9 hc
  have hcr := fun (W : World) (hc : W.cell? ⟨w.heap.size + 1, 0, none⟩ = some (.int .i32 b)) => run_convert_rune1 (P := Tryd.prog) W 57 9 21 ⟨w.heap.size + 1, 0, none⟩ 1 b Tryd.underlying57 Tryd.underlying21 Tryd.underlying9 hc
  generalize low5 b = d at HS h31 hw8 hcv
  have hgt : ¬ 9223372036854775807 < 1 + (Utf8.encode b).size := by omega
  generalize Utf8.encode b = u at HS hcr hgt hen
  generalize rng b 64 95 = m1 at HR1 HS
  generalize rng b 97 122 = m2 at HR2 HS
  have HB2 : Hid (∀ o, Below w.heap.size w ((w.alloc (kbx ⟨1, b, c⟩)).alloc o)) := Lib.hid fun o => HB.out.alloc (by simp) _
  cases f4 with
  | false =>
    have HS : Hid (s = altOf c ++ u) := HS
    cases f2
    all_goals
      go_enter Tryd.func10, Tryd.ntmps10
      go_wp2_with fail
      go_ret
      exact ⟨ret_str (by rw [HS.out, HA.out]; simp), HB2.out _⟩
  | true =>
    cases m1 with
    | true =>
      have HS : Hid (s = altOf c ++ ⟨#[d]⟩) := HS
      cases f2
      all_goals
        go_enter Tryd.func10, Tryd.ntmps10
        go_wp2_with fail
        refine (HR1.out _).mono ?_; rintro e w' ⟨rfl, rfl⟩
        go_wp2_with fail
        go_ret
        exact ⟨ret_str (by rw [HS.out, HA.out]; rfl), HB2.out _⟩
    | false =>
      cases m2 with
      | true =>
        have HS : Hid (s = altOf c ++ ⟨#[d]⟩) := HS
        cases f2
        all_goals
          go_enter Tryd.func10, Tryd.ntmps10
          go_wp2_with fail
          refine (HR1.out _).mono ?_; rintro e w' ⟨rfl, rfl⟩
          go_wp2_with fail
          refine (HR2.out _).mono ?_; rintro e w' ⟨rfl, rfl⟩
          go_wp2_with fail
          go_ret
          exact ⟨ret_str (by rw [HS.out, HA.out]; rfl), HB2.out _⟩
      | false =>
        have HS : Hid (s = altOf c ++ u) := HS
        cases f2
        all_goals
          go_enter Tryd.func10, Tryd.ntmps10
          go_wp2_with fail
          refine (HR1.out _).mono ?_; rintro e w' ⟨rfl, rfl⟩
          go_wp2_with fail
          refine (HR2.out _).mono ?_; rintro e w' ⟨rfl, rfl⟩
          go_wp2_with fail
          go_ret
          exact ⟨ret_str (by rw [HS.out, HA.out]; simp), HB2.out _⟩
/-- The bytes of a key that may be. -/
theorem refBytes_any (k : T3) (modes : Int) (w : World) (hk : keyB k = true) : Calls Tryd.prog 10 #[tagg k, .int .i64 modes] w fun e w' => e = .returned (.string (bytesK k modes)) ∧ Below w.heap.size w w' := by
  have h := keyB_facts hk
  obtain ⟨a, b, c⟩ := k
  simp only at h
  by_cases h1 : a = 1
  · subst h1; exact bytes_rune b c modes w h.2.2.2.2
  by_cases h2 : a = 12
  · subst h2; exact bytes_paste b c modes w
  by_cases h3 : a = 8 ∨ a = 9 ∨ a = 10 ∨ a = 11
  · exact bytes_plain a b c modes w h3
  · have h4 : rng a 2 11 = true := by
      unfold keyB at hk
      rw [Bool.and_eq_true] at hk
      have := hk.2
      rw [if_neg h1, if_neg h2, Bool.and_eq_true] at this
      exact this.1
    have := rng_yes.1 h4
    exact bytes_go a b c modes w (by omega) ⟨h.2.2.1, h.2.2.2.1⟩
end Key
end Go.Proofs.YtkkpdfjbgiijlaaDoor
