/- Contract of the library's FullRuneInString, at its two tables: just a part is not full. -/
import Derived.Test.YtjodbmfjdpbbnaaDoorUtfRefB
import Derived.Test.YtjodbmfjdpbbnaaDoorNums
import Derived.Lib.DecodeNEq
namespace Go.Proofs.YtjodbmfjdpbbnaaDoor
open Go.RowKit
namespace Utf

/-- The library's two tables lie in their blocks. -/
def Tabs (w : World) : Prop := 2 ≤ w.heap.size ∧ (∀ i, i < 256 → w.cell? ⟨0, i, none⟩ = some (.int .u8 (Lib.firstT i : Nat))) ∧
  ∀ i, i < 5 → w.cell? ⟨1, i * 2, none⟩ = some (.int .u8 (Lib.accLo i : Nat)) ∧ w.cell? ⟨1, i * 2 + 1, none⟩ = some (.int .u8 (Lib.accHi i : Nat))
theorem Tabs.kept {w w' : World} (h : Tabs w) (hb : Below w.heap.size w w') : Tabs w' :=
  ⟨Nat.le_trans h.1 hb.size, fun i hi => cell_kept hb (h.2.1 i hi), fun i hi => ⟨cell_kept hb (h.2.2 i hi).1, cell_kept hb (h.2.2 i hi).2⟩⟩
theorem first_lt (a : Nat) : Lib.firstT a < 256 := by
  unfold Lib.firstT
  repeat' split
  all_goals omega
/-- What the first table says of a byte that begins a rune of several. -/
theorem first_lead {a n : Nat} (ha : a < 256) (h1 : 1 ≤ n) (h : n < Lib.firstT a % 8) : Lib.firstT a % 8 = more a + 1 ∧ Lib.firstT a / 16 < 5 ∧ Lib.accLo (Lib.firstT a / 16) = low a 1 ∧ Lib.accHi (Lib.firstT a / 16) = high a 1 := by
  have hk : ∀ x : Fin 256, 1 < Lib.firstT x % 8 → Lib.firstT x % 8 = more x + 1 ∧ Lib.firstT x / 16 < 5 ∧ Lib.accLo (Lib.firstT x / 16) = low x 1 ∧ Lib.accHi (Lib.firstT x / 16) = high x 1 := by decide +kernel
  exact hk ⟨a, ha⟩ (by show 1 < Lib.firstT a % 8; omega)
theorem first_more {a : Nat} (ha : a < 256) (h : 0 < more a) : Lib.firstT a % 8 = more a + 1 := by
  have hk : ∀ x : Fin 256, 0 < more x → Lib.firstT x % 8 = more x + 1 := by decide +kernel
  exact hk ⟨a, ha⟩ h

set_option maxRecDepth 100000 in
set_option maxHeartbeats 800000 in
theorem full_yes (s : ByteArray) (w : World) (h0 : 0 < s.size) (hs : s.size ≤ 1000000) (ht : Tabs w) (hx : Lib.firstT s[0].toNat % 8 ≤ s.size) :
    Calls Tryd.prog 64 #[.string s] w fun e w' => e = .returned (.bool true) ∧ Below w.heap.size w w' := by
  have hb : ((s.size : Int) == 0) = false := by rw [beq_eq_false_iff_ne]; omega
  have hc := ht.2.1 s[0].toNat (byte_lt _)
  have hl := first_lt s[0].toNat
  have hb8 := byte_lt s[0]
  generalize Lib.firstT s[0].toNat = x at hc hl hx
  have h7 : bits .and .u8 (x : Int) 7 = (x : Int) % 8 := u8_and7 _ (by omega) (by omega)
  clear ht
  go_enter Tryd.func64, Tryd.ntmps64
  go_wp2_with fail
  go_ret
  exact ⟨rfl, Below.refl _ _⟩

set_option maxRecDepth 100000 in
set_option maxHeartbeats 1600000 in
theorem full_1 (a : UInt8) (w : World) (ht : Tabs w) (hx : 1 < Lib.firstT a.toNat % 8) :
    Calls Tryd.prog 64 #[.string ⟨#[a]⟩] w fun e w' => e = .returned (.bool (!isPart [a])) ∧ Below w.heap.size w w' := by
  have ea : ∀ q, (⟨#[a]⟩ : ByteArray)[0]'q = a := fun _ => rfl
  have hba := byte_lt a
  have hc := ht.2.1 a.toNat (byte_lt _)
  have hl := first_lt a.toNat
  obtain ⟨hm, h5, hlo, hhi⟩ := first_lead (byte_lt a) (show 1 ≤ 1 by omega) hx
  obtain ⟨hc1, hc2⟩ := ht.2.2 (Lib.firstT a.toNat / 16) h5
  rw [hlo] at hc1
  rw [hhi] at hc2
  have HF : Hid ((!isPart [a]) = false) := Lib.hid (by have : 0 < more a.toNat := by omega
                                                       simp [isPart, this])
  clear hm h5 hlo hhi ht
  generalize Lib.firstT a.toNat = x at hc hl hx hc1 hc2
  have h7 : bits .and .u8 (x : Int) 7 = (x : Int) % 8 := u8_and7 _ (by omega) (by omega)
  go_enter Tryd.func64, Tryd.ntmps64
  go_wp2_with fail
  go_quiet (fail)
  go_wp2_with fail
  go_ret
  exact ⟨ret_bool HF.out.symm, by repeat (first | exact (Below.refl _ _).alloc (Nat.le_refl _) _ | refine below_drewN ?_ _)⟩

set_option maxRecDepth 100000 in
set_option maxHeartbeats 1600000 in
theorem full_2 (a b : UInt8) (w : World) (ht : Tabs w) (hx : 2 < Lib.firstT a.toNat % 8) :
    Calls Tryd.prog 64 #[.string ⟨#[a, b]⟩] w fun e w' => e = .returned (.bool (!isPart [a, b])) ∧ Below w.heap.size w w' := by
  have ea : ∀ q, (⟨#[a, b]⟩ : ByteArray)[0]'q = a := fun _ => rfl
  have hba := byte_lt a
  have eb : ∀ q, (⟨#[a, b]⟩ : ByteArray)[1]'q = b := fun _ => rfl
  have hbb := byte_lt b
  have hc := ht.2.1 a.toNat (byte_lt _)
  have hl := first_lt a.toNat
  obtain ⟨hm, h5, hlo, hhi⟩ := first_lead (byte_lt a) (show 1 ≤ 2 by omega) hx
  obtain ⟨hc1, hc2⟩ := ht.2.2 (Lib.firstT a.toNat / 16) h5
  rw [hlo] at hc1
  rw [hhi] at hc2
  by_cases h1 : b.toNat < low a.toNat 1
  · have hf : follows a.toNat 1 b.toNat = false := by unfold follows; exact decide_eq_false (by omega)
    have HF : Hid ((!isPart [a, b]) = true) := Lib.hid (by simp [isPart, hf])
    have hd : decide (b.toNat < low a.toNat 1) = true := decide_eq_true (by omega)
    clear h1 hf
    clear hm h5 hlo hhi ht
    generalize Lib.firstT a.toNat = x at hc hl hx hc1 hc2
    generalize low a.toNat 1 = lo at *
    generalize high a.toNat 1 = hi at *
    have h7 : bits .and .u8 (x : Int) 7 = (x : Int) % 8 := u8_and7 _ (by omega) (by omega)
    go_enter Tryd.func64, Tryd.ntmps64
    go_wp2_with fail
    go_quiet (fail)
    go_wp2_with fail
    go_ret
    exact ⟨ret_bool HF.out.symm, by repeat (first | exact (Below.refl _ _).alloc (Nat.le_refl _) _ | refine below_drewN ?_ _)⟩
  · have hd : decide (b.toNat < low a.toNat 1) = false := decide_eq_false (by omega)
    by_cases h2 : high a.toNat 1 < b.toNat
    · have hf : follows a.toNat 1 b.toNat = false := by unfold follows; exact decide_eq_false (by omega)
      have HF : Hid ((!isPart [a, b]) = true) := Lib.hid (by simp [isPart, hf])
      have hd2 : decide (high a.toNat 1 < b.toNat) = true := decide_eq_true (by omega)
      clear h1 h2 hf
      clear hm h5 hlo hhi ht
      generalize Lib.firstT a.toNat = x at hc hl hx hc1 hc2
      generalize low a.toNat 1 = lo at *
      generalize high a.toNat 1 = hi at *
      have h7 : bits .and .u8 (x : Int) 7 = (x : Int) % 8 := u8_and7 _ (by omega) (by omega)
      go_enter Tryd.func64, Tryd.ntmps64
      go_wp2_with fail
      go_quiet (fail)
      go_wp2_with fail
      go_ret
      exact ⟨ret_bool HF.out.symm, by repeat (first | exact (Below.refl _ _).alloc (Nat.le_refl _) _ | refine below_drewN ?_ _)⟩
    · have hd2 : decide (high a.toNat 1 < b.toNat) = false := decide_eq_false (by omega)
      have hf : follows a.toNat 1 b.toNat = true := by unfold follows; exact decide_eq_true (by omega)
      have hm1 : 1 < more a.toNat := by omega
      have HF : Hid ((!isPart [a, b]) = false) := Lib.hid (by simp [isPart, hf, hm1])
      clear h1 h2 hf hm1
      clear hm h5 hlo hhi ht
      generalize Lib.firstT a.toNat = x at hc hl hx hc1 hc2
      generalize low a.toNat 1 = lo at *
      generalize high a.toNat 1 = hi at *
      have h7 : bits .and .u8 (x : Int) 7 = (x : Int) % 8 := u8_and7 _ (by omega) (by omega)
      go_enter Tryd.func64, Tryd.ntmps64
      go_wp2_with fail
      go_quiet (fail)
      go_wp2_with fail
      go_ret
      exact ⟨ret_bool HF.out.symm, by repeat (first | exact (Below.refl _ _).alloc (Nat.le_refl _) _ | refine below_drewN ?_ _)⟩

set_option maxRecDepth 100000 in
set_option maxHeartbeats 1600000 in
theorem full_3 (a b c : UInt8) (w : World) (ht : Tabs w) (hx : 3 < Lib.firstT a.toNat % 8) :
    Calls Tryd.prog 64 #[.string ⟨#[a, b, c]⟩] w fun e w' => e = .returned (.bool (!isPart [a, b, c])) ∧ Below w.heap.size w w' := by
  have ea : ∀ q, (⟨#[a, b, c]⟩ : ByteArray)[0]'q = a := fun _ => rfl
  have hba := byte_lt a
  have eb : ∀ q, (⟨#[a, b, c]⟩ : ByteArray)[1]'q = b := fun _ => rfl
  have hbb := byte_lt b
  have ec : ∀ q, (⟨#[a, b, c]⟩ : ByteArray)[2]'q = c := fun _ => rfl
  have hbc := byte_lt c
  have hc := ht.2.1 a.toNat (byte_lt _)
  have hl := first_lt a.toNat
  obtain ⟨hm, h5, hlo, hhi⟩ := first_lead (byte_lt a) (show 1 ≤ 3 by omega) hx
  obtain ⟨hc1, hc2⟩ := ht.2.2 (Lib.firstT a.toNat / 16) h5
  rw [hlo] at hc1
  rw [hhi] at hc2
  by_cases h1 : b.toNat < low a.toNat 1
  · have hf : follows a.toNat 1 b.toNat = false := by unfold follows; exact decide_eq_false (by omega)
    have HF : Hid ((!isPart [a, b, c]) = true) := Lib.hid (by simp [isPart, hf])
    have hd : decide (b.toNat < low a.toNat 1) = true := decide_eq_true (by omega)
    clear h1 hf
    clear hm h5 hlo hhi ht
    generalize Lib.firstT a.toNat = x at hc hl hx hc1 hc2
    generalize low a.toNat 1 = lo at *
    generalize high a.toNat 1 = hi at *
    have h7 : bits .and .u8 (x : Int) 7 = (x : Int) % 8 := u8_and7 _ (by omega) (by omega)
    go_enter Tryd.func64, Tryd.ntmps64
    go_wp2_with fail
    go_quiet (fail)
    go_wp2_with fail
    go_ret
    exact ⟨ret_bool HF.out.symm, by repeat (first | exact (Below.refl _ _).alloc (Nat.le_refl _) _ | refine below_drewN ?_ _)⟩
  · have hd : decide (b.toNat < low a.toNat 1) = false := decide_eq_false (by omega)
    by_cases h2 : high a.toNat 1 < b.toNat
    · have hf : follows a.toNat 1 b.toNat = false := by unfold follows; exact decide_eq_false (by omega)
      have HF : Hid ((!isPart [a, b, c]) = true) := Lib.hid (by simp [isPart, hf])
      have hd2 : decide (high a.toNat 1 < b.toNat) = true := decide_eq_true (by omega)
      clear h1 h2 hf
      clear hm h5 hlo hhi ht
      generalize Lib.firstT a.toNat = x at hc hl hx hc1 hc2
      generalize low a.toNat 1 = lo at *
      generalize high a.toNat 1 = hi at *
      have h7 : bits .and .u8 (x : Int) 7 = (x : Int) % 8 := u8_and7 _ (by omega) (by omega)
      go_enter Tryd.func64, Tryd.ntmps64
      go_wp2_with fail
      go_quiet (fail)
      go_wp2_with fail
      go_ret
      exact ⟨ret_bool HF.out.symm, by repeat (first | exact (Below.refl _ _).alloc (Nat.le_refl _) _ | refine below_drewN ?_ _)⟩
    · have hd2 : decide (high a.toNat 1 < b.toNat) = false := decide_eq_false (by omega)
      have hf : follows a.toNat 1 b.toNat = true := by unfold follows; exact decide_eq_true (by omega)
      have hm1 : 2 < more a.toNat := by omega
      by_cases h3 : c.toNat < 128
      · have hf2 : follows a.toNat 2 c.toNat = false := by unfold follows low high; exact decide_eq_false (by simp; omega)
        have HF : Hid ((!isPart [a, b, c]) = true) := Lib.hid (by simp [isPart, hf2])
        have hd3 : decide ((c.toNat : Int) < 128) = true := decide_eq_true (by omega)
        clear h1 h2 h3 hf hf2 hm1
        clear hm h5 hlo hhi ht
        generalize Lib.firstT a.toNat = x at hc hl hx hc1 hc2
        generalize low a.toNat 1 = lo at *
        generalize high a.toNat 1 = hi at *
        have h7 : bits .and .u8 (x : Int) 7 = (x : Int) % 8 := u8_and7 _ (by omega) (by omega)
        go_enter Tryd.func64, Tryd.ntmps64
        go_wp2_with fail
        go_quiet (fail)
        go_wp2_with fail
        go_ret
        exact ⟨ret_bool HF.out.symm, by repeat (first | exact (Below.refl _ _).alloc (Nat.le_refl _) _ | refine below_drewN ?_ _)⟩
      · have hd3 : decide ((c.toNat : Int) < 128) = false := decide_eq_false (by omega)
        by_cases h4 : 191 < c.toNat
        · have hf2 : follows a.toNat 2 c.toNat = false := by unfold follows low high; exact decide_eq_false (by simp; omega)
          have HF : Hid ((!isPart [a, b, c]) = true) := Lib.hid (by simp [isPart, hf2])
          have hd4 : decide (191 < (c.toNat : Int)) = true := decide_eq_true (by omega)
          clear h1 h2 h3 h4 hf hf2 hm1
          clear hm h5 hlo hhi ht
          generalize Lib.firstT a.toNat = x at hc hl hx hc1 hc2
          generalize low a.toNat 1 = lo at *
          generalize high a.toNat 1 = hi at *
          have h7 : bits .and .u8 (x : Int) 7 = (x : Int) % 8 := u8_and7 _ (by omega) (by omega)
          go_enter Tryd.func64, Tryd.ntmps64
          go_wp2_with fail
          go_quiet (fail)
          go_wp2_with fail
          go_ret
          exact ⟨ret_bool HF.out.symm, by repeat (first | exact (Below.refl _ _).alloc (Nat.le_refl _) _ | refine below_drewN ?_ _)⟩
        · have hd4 : decide (191 < (c.toNat : Int)) = false := decide_eq_false (by omega)
          have hf2 : follows a.toNat 2 c.toNat = true := by unfold follows low high; exact decide_eq_true (by simp; omega)
          have HF : Hid ((!isPart [a, b, c]) = false) := Lib.hid (by simp [isPart, hf, hf2, hm1])
          clear h1 h2 h3 h4 hf hf2 hm1
          clear hm h5 hlo hhi ht
          generalize Lib.firstT a.toNat = x at hc hl hx hc1 hc2
          generalize low a.toNat 1 = lo at *
          generalize high a.toNat 1 = hi at *
          have h7 : bits .and .u8 (x : Int) 7 = (x : Int) % 8 := u8_and7 _ (by omega) (by omega)
          go_enter Tryd.func64, Tryd.ntmps64
          go_wp2_with fail
          go_quiet (fail)
          go_wp2_with fail
          go_ret
          exact ⟨ret_bool HF.out.symm, by repeat (first | exact (Below.refl _ _).alloc (Nat.le_refl _) _ | refine below_drewN ?_ _)⟩

/-- FULL, of any text that is not empty: just where it is no part. -/
theorem full_any (s : ByteArray) (w : World) (h0 : 0 < s.size) (hs : s.size ≤ 1000000) (ht : Tabs w) :
    Calls Tryd.prog 64 #[.string s] w fun e w' => e = .returned (.bool (!isPart s.data.toList)) ∧ Below w.heap.size w w' := by
  obtain ⟨⟨l⟩⟩ := s
  match l, h0 with
  | a :: r, h0 =>
    by_cases hx : Lib.firstT a.toNat % 8 ≤ (a :: r).length
    · have hf : isPart (a :: r) = false := by
        cases hp : isPart (a :: r)
        · rfl
        · have := part_more hp
          have := first_more (byte_lt a) (by omega)
          simp at hx
          omega
      have := full_yes ⟨(a :: r).toArray⟩ w h0 hs ht hx
      refine this.mono fun e w' h => ⟨by rw [h.1]; simp [hf], h.2⟩
    · have hx : (a :: r).length < Lib.firstT a.toNat % 8 := by omega
      have hm := (first_lead (byte_lt a) (by simp) hx).1
      have := more_le a.toNat
      match r, hx with
      | [], hx => exact full_1 a w ht hx
      | [b], hx => exact full_2 a b w ht hx
      | [b, c], hx => exact full_3 a b c w ht hx
      | _ :: _ :: _ :: _, hx => simp at hx; omega
end Utf
end Go.Proofs.YtjodbmfjdpbbnaaDoor
