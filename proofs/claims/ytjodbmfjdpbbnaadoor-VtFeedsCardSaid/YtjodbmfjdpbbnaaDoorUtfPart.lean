/- Contracts of package utf: Part, fits, broken, step, Next, Flush. -/
import Derived.Test.YtjodbmfjdpbbnaaDoorUtfUse
namespace Go.Proofs.YtjodbmfjdpbbnaaDoor
open Go.RowKit
namespace Utf

theorem piece_open {l : List UInt8} (h : isPart l = true) : pieceOf l = .iface 73 (.string ⟨l.toArray⟩) := by unfold pieceOf; rw [h, if_pos rfl]
theorem piece_whole {l : List UInt8} {r : Nat} (h : isPart l = false) (hr : wholeOf l = some r) : pieceOf l = .iface 93 (.int .i32 r) := by unfold pieceOf; rw [h, if_neg (by decide), hr]
theorem piece_stray {l : List UInt8} (h : isPart l = false) (hr : wholeOf l = none) : pieceOf l = .iface 95 (.agg #[]) := by unfold pieceOf; rw [h, if_neg (by decide), hr]

@[go_sem] theorem is_open_open (v : Value) (w : World) : (Instr.typeAssert (.iface 73 v) 75 73 true).run Tryd.prog w = .ok (.tuple #[v, .bool true]) w := by kernel_rfl
@[go_sem] theorem is_open_whole (v : Value) (w : World) : (Instr.typeAssert (.iface 93 v) 75 73 true).run Tryd.prog w = .ok (.tuple #[.string ByteArray.empty, .bool false]) w := by kernel_rfl
@[go_sem] theorem is_open_stray (v : Value) (w : World) : (Instr.typeAssert (.iface 95 v) 75 73 true).run Tryd.prog w = .ok (.tuple #[.string ByteArray.empty, .bool false]) w := by kernel_rfl
@[go_sem] theorem is_stray_open (v : Value) (w : World) : (Instr.typeAssert (.iface 73 v) 75 95 true).run Tryd.prog w = .ok (.tuple #[.agg #[], .bool false]) w := by kernel_rfl
@[go_sem] theorem is_stray_whole (v : Value) (w : World) : (Instr.typeAssert (.iface 93 v) 75 95 true).run Tryd.prog w = .ok (.tuple #[.agg #[], .bool false]) w := by kernel_rfl
@[go_sem] theorem is_stray_stray (v : Value) (w : World) : (Instr.typeAssert (.iface 95 v) 75 95 true).run Tryd.prog w = .ok (.tuple #[v, .bool true]) w := by kernel_rfl
@[go_sem] theorem must_whole (v : Value) (w : World) : (Instr.typeAssert (.iface 93 v) 75 93 false).run Tryd.prog w = .ok v w := by kernel_rfl

set_option maxHeartbeats 400000 in
theorem utfPart_any (s : ByteArray) (w : World) (hs : s.size ≤ 1000000) (ht : Tabs w) :
    Calls Tryd.prog 35 #[.string s] w fun e w' => e = .returned (.bool (isPart s.data.toList)) ∧ Below w.heap.size w w' := by
  have HT := Lib.hid ht
  clear ht
  cases hp : isPart s.data.toList
  · cases hw : wholeOf s.data.toList with
    | none =>
      have HV := Lib.hid (piece_stray hp hw)
      clear hp hw
      go_enter Tryd.func35, Tryd.ntmps35
      go_wp2_with fail
      refine (read_any s _ hs HT.out).mono ?_
      rw [HV.out]
      rintro e w' ⟨rfl, hb⟩
      go_wp2_with fail
      go_ret
      exact ⟨rfl, hb⟩
    | some r =>
      have HV := Lib.hid (piece_whole hp hw)
      clear hp hw
      go_enter Tryd.func35, Tryd.ntmps35
      go_wp2_with fail
      refine (read_any s _ hs HT.out).mono ?_
      rw [HV.out]
      rintro e w' ⟨rfl, hb⟩
      go_wp2_with fail
      go_ret
      exact ⟨rfl, hb⟩
  · have HV := Lib.hid (piece_open hp)
    clear hp
    go_enter Tryd.func35, Tryd.ntmps35
    go_wp2_with fail
    refine (read_any s _ hs HT.out).mono ?_
    rw [HV.out]
    rintro e w' ⟨rfl, hb⟩
    go_wp2_with fail
    go_ret
    exact ⟨rfl, hb⟩

theorem fits_any (s : ByteArray) (w : World) (hs : s.size ≤ 1000000) (ht : Tabs w) :
    Calls Tryd.prog 65 #[.string s] w fun e w' => e = .returned (.bool (fits s.data.toList)) ∧ Below w.heap.size w w' := by
  have HT := Lib.hid ht
  clear ht
  cases h0 : s.data.toList.isEmpty
  · have hf : fits s.data.toList = isPart s.data.toList := by unfold fits; rw [h0]; rfl
    have HF := Lib.hid hf
    have h1 : s.toList.isEmpty = false := by rw [Lib.toList_data]; exact h0
    clear h0 hf
    go_enter Tryd.func65, Tryd.ntmps65
    go_wp2_with fail
    refine (utfPart_any _ _ hs HT.out).mono ?_; rintro e w' ⟨rfl, hb⟩
    go_wp2_with fail
    go_ret
    exact ⟨ret_bool HF.out.symm, hb⟩
  · have hf : fits s.data.toList = true := by unfold fits; rw [h0]; rfl
    have HF := Lib.hid hf
    have h1 : s.toList.isEmpty = true := by rw [Lib.toList_data]; exact h0
    clear h0 hf
    go_enter Tryd.func65, Tryd.ntmps65
    go_wp2_with fail
    go_ret
    exact ⟨ret_bool HF.out.symm, Below.refl _ _⟩

/-- What is told where numbers are put behind numbers of the caller's own. -/
def Puts (w : World) (base : Nat) (v : Value) (xs : List Int) (w' : World) (u : Value) : Prop :=
  w'.ownsRow base 3 1 u xs.length (ints xs) ∧ w.grownBy w' v.ownBlock ∧ (u.ownBlock = v.ownBlock ∨ ∃ g, u.ownBlock = some g ∧ w.heap.size ≤ g)

set_option maxHeartbeats 400000 in
theorem broken_any (v : Value) (xs : List Int) (base : Nat) (s : ByteArray) (l : List UInt8) (hl : s.data.toList = l) (w : World) (ho : w.ownsRow base 3 1 v xs.length (ints xs)) (hx : xs.length ≤ 100000000) (hb : base ≤ w.heap.size) :
    Calls Tryd.prog 66 #[v, .string s] w fun e w' => ∃ u, e = .returned u ∧ Puts w base v (xs ++ brk l) w' u := by
  have HO := Lib.hid ho
  have hx' := Lib.hid hx
  have hb' := Lib.hid hb
  clear ho hx hb
  by_cases h0 : l = []
  · have h1 : s.toList.isEmpty = true := by rw [Lib.toList_data, hl, h0]; rfl
    have HB : Hid (brk l = []) := Lib.hid (by unfold brk; rw [if_pos h0])
    clear hl h0
    go_enter Tryd.func66, Tryd.ntmps66
    go_wp2_with fail
    go_ret
    refine ⟨_, rfl, ?_⟩
    rw [HB.out, List.append_nil]
    exact ⟨HO.out, World.grownBy.refl _ _, .inl rfl⟩
  · have h1 : s.toList.isEmpty = false := by
      rw [Lib.toList_data, hl]
      cases l
      · exact absurd rfl h0
      · rfl
    have HB : Hid (brk l = [65533]) := Lib.hid (by unfold brk; rw [if_neg h0])
    clear hl h0
    go_enter Tryd.func66, Tryd.ntmps66
    go_wp2_with (at_builtin; refine wp_append_ints rfl rfl base v _ xs rfl (HO.out.alloc _) _ 1 [65533] rfl (Src.one w _ _ _) (by have := hx'.out; omega) (by simp; have := hb'.out; omega) ?_; intro v1 w1 ho1 hg1 hat1)
    go_ret
    refine ⟨_, rfl, ?_⟩
    rw [HB.out]
    refine ⟨by rw [List.length_append]; exact ho1, ?_, ?_⟩
    · exact ⟨hg1.os, hg1.tape, hg1.output, by have := hg1.size; simp at this; omega, fun k hk hne => (hg1.block k (by simp; omega) hne).trans (Below.heap_alloc w _ k hk)⟩
    · rcases hat1 with h | h
      · exact .inl h
      · exact .inr ⟨_, h, by simp⟩
end Utf
end Go.Proofs.YtjodbmfjdpbbnaaDoor
