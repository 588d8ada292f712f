/- Contracts of package width's Of and Text, and of the reference's Width. -/
import Derived.Test.YtodecjdcaaonoaaWid
import Derived.Test.YtodecjdcaaonoaaRunes
namespace Go.Proofs.Ytodecjdcaaonoaa
open Go.RowKit
namespace Wid

@[go_sem] theorem is_none_none (v : Value) (w : World) : (Instr.typeAssert (.iface 36 v) 33 36 true).run Try.prog w = .ok (.tuple #[v, .bool true]) w := by kernel_rfl
@[go_sem] theorem is_none_mark (v : Value) (w : World) : (Instr.typeAssert (.iface 38 v) 33 36 true).run Try.prog w = .ok (.tuple #[.agg #[], .bool false]) w := by kernel_rfl
@[go_sem] theorem is_none_cells (v : Value) (w : World) : (Instr.typeAssert (.iface 40 v) 33 36 true).run Try.prog w = .ok (.tuple #[.agg #[], .bool false]) w := by kernel_rfl
@[go_sem] theorem is_mark_mark (v : Value) (w : World) : (Instr.typeAssert (.iface 38 v) 33 38 true).run Try.prog w = .ok (.tuple #[v, .bool true]) w := by kernel_rfl
@[go_sem] theorem is_mark_cells (v : Value) (w : World) : (Instr.typeAssert (.iface 40 v) 33 38 true).run Try.prog w = .ok (.tuple #[.agg #[], .bool false]) w := by kernel_rfl
@[go_sem] theorem must_cells (v : Value) (w : World) : (Instr.typeAssert (.iface 40 v) 33 40 false).run Try.prog w = .ok v w := by kernel_rfl
@[go_sem] theorem is_cells_cells (v : Value) (w : World) : (Instr.typeAssert (.iface 40 v) 33 40 true).run Try.prog w = .ok (.tuple #[v, .bool true]) w := by kernel_rfl
@[go_sem] theorem is_cells_none (v : Value) (w : World) : (Instr.typeAssert (.iface 36 v) 33 40 true).run Try.prog w = .ok (.tuple #[.int .i64 0, .bool false]) w := by kernel_rfl
@[go_sem] theorem is_cells_mark (v : Value) (w : World) : (Instr.typeAssert (.iface 38 v) 33 40 true).run Try.prog w = .ok (.tuple #[.int .i64 0, .bool false]) w := by kernel_rfl

theorem kind_cases (r : Int) : (kindOf r = .iface 36 (.agg #[]) ∧ wid r = -1 ∧ adds r = 0) ∨ (kindOf r = .iface 38 (.agg #[]) ∧ wid r = 0 ∧ adds r = 0) ∨
    (kindOf r = .iface 40 (.int .i64 2) ∧ wid r = 2 ∧ adds r = 2) ∨ (kindOf r = .iface 40 (.int .i64 1) ∧ wid r = 1 ∧ adds r = 1) := by
  unfold kindOf wid adds
  cases isNone r <;> cases isMark r <;> cases isWide r <;> simp
theorem look_at (r : Int) (k : Value) (hk : kindOf r = k) (w : World) : Calls Try.prog 10 #[.int .i64 r] w fun e w' => e = .returned k ∧ w = w' := by
  subst hk; exact look_any r w

set_option maxHeartbeats 400000 in
theorem of_any (r : Int) (w : World) : Calls Try.prog 5 #[.int .i64 r] w fun e w' => e = .returned (.int .i64 (wid r)) ∧ Below w.heap.size w w' := by
  rcases kind_cases r with ⟨hk, hw, _⟩ | ⟨hk, hw, _⟩ | ⟨hk, hw, _⟩ | ⟨hk, hw, _⟩
  all_goals
    have HK := Lib.hid hk
    have HW := Lib.hid hw
    clear hk hw
    go_enter Try.func5, Try.ntmps5
    go_wp2_with fail
    refine (look_at r _ HK.out _).mono ?_; rintro e w' ⟨rfl, rfl⟩
    go_wp2_with fail
    go_ret
    exact ⟨ret_int HW.out.symm, by repeat (first | exact Below.refl _ _ | refine Below.alloc ?_ (Nat.le_refl _) _ | refine Below.alloc ?_ (by simp) _ | refine Below.setCell ?_ (by simp) _)⟩

set_option maxHeartbeats 800000 in
theorem text_any (s : ByteArray) (w : World) (hs : s.size ≤ 1000000) : Calls Try.prog 9 #[.string s] w fun e w' => e = .returned (.int .i64 (text s.data.toList)) ∧ Below w.heap.size w w' := by
  go_enter Try.func9, Try.ntmps9
  go_wp2_with fail
  go_loopw [3] (fun t wr => ∃ (pos : Nat) (T : Int), pos ≤ s.size ∧ t = .int .i64 T ∧ 0 ≤ T ∧ T ≤ 2 * pos ∧ Hid (T + text (s.data.toList.drop pos) = text s.data.toList) ∧ Hid (wr.heap[w.heap.size]? = some (.stringIter s pos)) ∧ Below w.heap.size w wr) (fun _ wr => s.size - wr.iterPos w.heap.size)
  case atStart => exact ⟨0, 0, by omega, rfl, by omega, by omega, Lib.hid (by simp), Lib.hid (World.iter_heap _ _ _), Utf.below_iter (Below.refl _ _) (Nat.le_refl _) _ _⟩
  case round =>
    obtain ⟨pos, T, hpos, rfl, h0, hT, HT, HI, hbl⟩ := hrel
    by_cases hp : pos < s.size
    · have hnx : ∀ ty, (Instr.next (.pointer (some ⟨w.heap.size, 0, none⟩)) true ty).run Try.prog wr = _ := fun ty => Lib.run_next_any_at wr w.heap.size s pos ty HI.out hp
      have HIP : Hid (wr.iterPos w.heap.size = pos) := Lib.hid (by simp [World.iterPos, HI.out])
      rw [Utf.dec_at] at hnx
      have hstep := text_step (Utf.drop_ne hp)
      rw [List.drop_drop] at hstep
      have hle := dec_le (Utf.drop_ne hp)
      have h1 := dec_pos (Utf.drop_ne hp)
      have hsm := Utf.dec_small (s.data.toList.drop pos)
      rw [List.length_drop, show s.data.toList.length = s.size from rfl] at hle
      obtain ⟨d, hD⟩ : ∃ d, Utf.dec (s.data.toList.drop pos) = d := ⟨_, rfl⟩
      rw [hD] at hnx hstep hle h1 hsm
      clear hD
      have HS := Lib.hid hstep
      clear hstep
      have hit2 := Lib.iterAt_heap wr w.heap.size s pos (pos + d.2) HI.out
      have HIT2 := Lib.hid hit2
      have hIP2 : Hid ((wr.iterAt w.heap.size s (pos + d.2)).iterPos w.heap.size = pos + d.2) := Lib.hid (by simp [World.iterPos, hit2])
      have hbl2 : Below w.heap.size w (wr.iterAt w.heap.size s (pos + d.2)) := Lib.below_iterAt hbl (Nat.le_refl _) _ _
      clear hit2
      rcases kind_cases d.1 with ⟨hk, _, ha⟩ | ⟨hk, _, ha⟩ | ⟨hk, _, ha⟩ | ⟨hk, _, ha⟩
      all_goals
        have HK := Lib.hid hk
        have HA := Lib.hid ha
        clear hk ha
        go_wp2_with fail
        refine (look_at d.1 _ HK.out _).mono ?_; rintro e w' ⟨rfl, rfl⟩
        go_wp2_with fail
        go_roundw
        case rel => exact ⟨pos + d.2, _, by omega, rfl, by omega, by omega, Lib.hid (by have := HS.out; rw [HA.out] at this; have := HT.out; omega), HIT2, hbl2⟩
        case measure => rw [hIP2.out, HIP.out]; omega
    · have hnx : ∀ ty, (Instr.next (.pointer (some ⟨w.heap.size, 0, none⟩)) true ty).run Try.prog wr = _ := fun ty => Lib.run_next_end_at wr w.heap.size s pos ty HI.out hp
      have HE : Hid (T = text s.data.toList) := Lib.hid (by
        have h := HT.out
        rw [List.drop_eq_nil_of_le (by show s.size ≤ pos; omega), text_nil] at h; omega)
      go_wp2_with fail
      go_ret
      exact ⟨ret_int HE.out, hbl⟩
end Wid
end Go.Proofs.Ytodecjdcaaonoaa
