/- Contracts of the reference's Part and May. -/
import Derived.Test.YtjodbmfjdpbbnaaDoorUtfRefA
namespace Go.Proofs.YtjodbmfjdpbbnaaDoor
open Go.RowKit
namespace Utf

theorem part_iff (l : List UInt8) : isPart l = true ↔ 0 < l.length ∧ l.length ≤ more (l.getD 0 0).toNat ∧ ∀ j, 1 ≤ j → j < l.length → follows (l.getD 0 0).toNat j (l.getD j 0).toNat = true := by
  match l with
  | [] => simp [isPart]
  | [f] => simp [isPart]; constructor
           · intro h; exact ⟨h, fun j h1 h2 => by omega⟩
           · intro h; exact h.1
  | [f, g] =>
    simp [isPart]; constructor
    · intro h; refine ⟨h.1, fun j h1 h2 => ?_⟩
      obtain rfl : j = 1 := by omega
      exact h.2
    · intro h; exact ⟨h.1, h.2 1 (by omega) (by omega)⟩
  | [f, g, k] =>
    simp [isPart]; constructor
    · intro h; refine ⟨h.1, fun j h1 h2 => ?_⟩
      rcases (by omega : j = 1 ∨ j = 2) with rfl | rfl
      · exact h.2.1
      · exact h.2.2
    · intro h; exact ⟨h.1, h.2 1 (by omega) (by omega), h.2 2 (by omega) (by omega)⟩
  | f :: g :: k :: j :: r =>
    have := more_le f.toNat
    simp [isPart]
    intro h; omega

theorem getD_byte (s : ByteArray) (i : Nat) (h : i < s.size) : (s.data.toList.getD i 0) = s[i] := by
  obtain ⟨⟨l⟩⟩ := s
  have hl : i < l.length := h
  simp only [List.getD, List.getElem?_eq_getElem hl, Option.getD_some]
  rfl

/-- The bytes from 1 up to k may follow. -/
def On (s : ByteArray) (k : Nat) : Prop := ∀ j, 1 ≤ j → j < k → follows (s.data.toList.getD 0 0).toNat j (s.data.toList.getD j 0).toNat = true
theorem On.succ {s : ByteArray} {k : Nat} (h : On s k) (h0 : 0 < s.size) (hk : k < s.size) (hf : follows s[0].toNat k s[k].toNat = true) : On s (k + 1) := by
  intro j h1 h2
  by_cases e : j = k
  · subst e; rw [getD_byte s 0 h0, getD_byte s j hk]; exact hf
  · exact h j h1 (by omega)
theorem On.all_ {s : ByteArray} {k : Nat} (h : On s k) (h0 : 0 < s.size) (hk : s.size ≤ k) (hm : s.size ≤ more s[0].toNat) : isPart s.data.toList = true :=
  (part_iff _).2 ⟨h0, by rw [getD_byte s 0 h0]; exact hm, fun j h1 h2 => h j h1 (Nat.lt_of_lt_of_le h2 hk)⟩
theorem On.none_ {s : ByteArray} {k : Nat} (h0 : 0 < s.size) (h1 : 1 ≤ k) (hk : k < s.size) (hf : follows s[0].toNat k s[k].toNat = false) : isPart s.data.toList = false := by
  cases hp : isPart s.data.toList
  · rfl
  · have := ((part_iff _).1 hp).2.2 k h1 hk
    rw [getD_byte s 0 h0, getD_byte s k hk, hf] at this
    cases this

set_option maxHeartbeats 400000 in
theorem part_any (s : ByteArray) (w : World) (hs : s.size ≤ 1000000) : Calls Tryd.prog 36 #[.string s] w fun e w' => e = .returned (.bool (isPart s.data.toList)) ∧ Below w.heap.size w w' := by
  have hlen : s.data.toList.length = s.size := rfl
  have HI := Lib.hid (part_iff s.data.toList)
  by_cases h0 : s.size = 0
  · have hf : isPart s.data.toList = false := by
      cases hp : isPart s.data.toList
      · rfl
      · have := HI.out.1 hp; omega
    have HF := Lib.hid hf
    have hb : ((s.size : Int) == 0) = true := by simp [h0]
    clear h0 hf hlen
    go_enter Tryd.func36, Tryd.ntmps36
    go_wp2_with fail
    go_ret
    exact ⟨ret_bool HF.out.symm, Below.refl _ _⟩
  · have hb : ((s.size : Int) == 0) = false := by rw [beq_eq_false_iff_ne]; omega
    have h0' : 0 < s.size := by omega
    rw [hlen, getD_byte s 0 h0'] at HI
    clear h0 hlen
    by_cases hm : s.size ≤ more (s[0].toNat)
    · have hz : decide (moreZ s[0].toNat < (s.size : Int)) = false := by
        unfold moreZ; rw [if_neg (by omega)]; simp; omega
      go_enter Tryd.func36, Tryd.ntmps36
      go_wp2_with fail
      refine (more_any _ _ (byte_lt _)).mono ?_; rintro e w' ⟨rfl, rfl⟩
      go_wp2_with fail
      go_loopw [3] (fun i wr => ∃ k : Nat, 1 ≤ k ∧ k ≤ s.size ∧ i = .int .i64 k ∧ On s k ∧ Below w.heap.size w wr) (fun i _ => s.size - (intOf i).toNat)
      case atStart => exact ⟨1, by omega, by omega, rfl, fun j h1 h2 => by omega, Below.refl _ _⟩
      case round =>
        obtain ⟨k, h1, hk, rfl, hon, hbl⟩ := hrel
        by_cases hlt : k < s.size
        · cases hf : follows s[0].toNat k s[k].toNat
          · have HF := Lib.hid (On.none_ h0' h1 hlt hf)
            go_wp2_with fail
            go_quiet ((go_at_call 50; exact quiet_left (follows_any _ _ _ _ (byte_lt _))))
            go_wp2_with fail
            go_ret
            exact ⟨ret_bool HF.out.symm, below_drewN hbl _⟩
          · have HF := Lib.hid (hon.succ h0' hlt hf)
            go_wp2_with fail
            go_quiet ((go_at_call 50; exact quiet_left (follows_any _ _ _ _ (byte_lt _))))
            go_wp2_with fail
            go_roundw
            case rel => exact ⟨k + 1, by omega, by omega, by go_num, HF.out, below_drewN hbl _⟩
            case measure => simp [intOf]; omega
        · have HF := Lib.hid (hon.all_ h0' (by omega) hm)
          go_wp2_with fail
          go_ret
          exact ⟨ret_bool HF.out.symm, hbl⟩
    · have hz : decide (moreZ s[0].toNat < (s.size : Int)) = true := by
        unfold moreZ; split <;> simp <;> omega
      have hf : isPart s.data.toList = false := by
        cases hp : isPart s.data.toList
        · rfl
        · have := (HI.out.1 hp).2.1; omega
      have HF := Lib.hid hf
      clear hf hm HI
      go_enter Tryd.func36, Tryd.ntmps36
      go_wp2_with fail
      refine (more_any _ _ (byte_lt _)).mono ?_; rintro e w' ⟨rfl, rfl⟩
      go_wp2_with fail
      go_ret
      exact ⟨ret_bool HF.out.symm, Below.refl _ _⟩

theorem may_any (s : ByteArray) (w : World) (hs : s.size ≤ 1000000) : Calls Tryd.prog 25 #[.string s] w fun e w' => e = .returned (.bool (fits s.data.toList)) ∧ Below w.heap.size w w' := by
  cases h0 : s.data.toList.isEmpty
  · have hf : fits s.data.toList = isPart s.data.toList := by unfold fits; rw [h0]; rfl
    have HF := Lib.hid hf
    have h1 : s.toList.isEmpty = false := by rw [Lib.toList_data]; exact h0
    clear h0 hf
    go_enter Tryd.func25, Tryd.ntmps25
    go_wp2_with fail
    refine (part_any _ _ hs).mono ?_; rintro e w' ⟨rfl, hb⟩
    go_wp2_with fail
    go_ret
    exact ⟨ret_bool HF.out.symm, hb⟩
  · have hf : fits s.data.toList = true := by unfold fits; rw [h0]; rfl
    have HF := Lib.hid hf
    have h1 : s.toList.isEmpty = true := by rw [Lib.toList_data]; exact h0
    clear h0 hf
    go_enter Tryd.func25, Tryd.ntmps25
    go_wp2_with fail
    go_ret
    exact ⟨ret_bool HF.out.symm, Below.refl _ _⟩
end Utf
end Go.Proofs.YtjodbmfjdpbbnaaDoor
