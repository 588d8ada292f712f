/- Contracts of package utf: what bytes are. -/
import Derived.Test.YtjodbmfjdpbbnaaDoorUtfFull
import Derived.Test.YtjodbmfjdpbbnaaDoorUtfWhole
import Derived.Test.YtjodbmfjdpbbnaaDoorUtfRefC
import Derived.Test.YtjodbmfjdpbbnaaDoorRunes
import Derived.Laws.RangeAny
import Derived.Laws.Runes
import Derived.LoopTactic
namespace Go.Proofs.YtjodbmfjdpbbnaaDoor
open Go.RowKit
namespace Utf

/-- What a text is, as the program tells it. -/
def pieceOf (l : List UInt8) : Value :=
  if isPart l = true then .iface 73 (.string ⟨l.toArray⟩) else match wholeOf l with | some r => .iface 93 (.int .i32 r) | none => .iface 95 (.agg #[])

theorem not_empty {s : ByteArray} (h : 0 < s.size) : s.toList.isEmpty = false := by
  rw [Lib.toList_data]
  obtain ⟨⟨l⟩⟩ := s
  match l, h with
  | _ :: _, _ => rfl

set_option maxRecDepth 100000 in
set_option maxHeartbeats 800000 in
theorem read_part (s : ByteArray) (w : World) (hs : s.size ≤ 1000000) (ht : Tabs w) (hp : isPart s.data.toList = true) :
    Calls Tryd.prog 48 #[.string s] w fun e w' => e = .returned (.iface 73 (.string s)) ∧ Below w.heap.size w w' := by
  have h0 : 0 < s.size := (part_len hp).1
  have h1 := not_empty h0
  have HP := Lib.hid hp
  have HT := Lib.hid ht
  clear hp ht
  go_enter Tryd.func48, Tryd.ntmps48
  go_wp2_with fail
  refine (full_any s _ h0 hs HT.out).mono ?_
  rw [HP.out]
  rintro e w' ⟨rfl, hb⟩
  go_wp2_with fail
  go_ret
  exact ⟨rfl, hb⟩

/-- The answer of what is no part. -/
def shut (l : List UInt8) : Value := match wholeOf l with | some r => .iface 93 (.int .i32 r) | none => .iface 95 (.agg #[])

theorem shut_none {l : List UInt8} (h : wholeOf l = none) : shut l = .iface 95 (.agg #[]) := by unfold shut; rw [h]
theorem shut_some {l : List UInt8} {r : Nat} (h : wholeOf l = some r) : shut l = .iface 93 (.int .i32 r) := by unfold shut; rw [h]
def Cut (x s : ByteArray) : Prop := x = s ∨ wholeOf s.data.toList = none
/-- A rune that is met: it is the text's own, or goes by. -/
theorem met {s x : ByteArray} {pos : Nat} (hx : Cut x s) (hp : pos < x.size) (hr : pos = 0 ∨ wholeOf s.data.toList = none) :
    (((Utf8.encode ((Utf8.decode x pos).1 : Int)).toList == s.toList) = true ∧ wholeOf s.data.toList = some (Utf8.decode x pos).1) ∨
    (((Utf8.encode ((Utf8.decode x pos).1 : Int)).toList == s.toList) = false ∧ wholeOf s.data.toList = none) := by
  have hd := dec_whole _ (drop_ne hp)
  rw [← dec_at] at hd
  cases he : (Utf8.encode ((Utf8.decode x pos).1 : Int)).toList == s.toList
  · refine .inr ⟨rfl, ?_⟩
    rcases hr with h0 | hn
    · rcases hx with rfl | hn
      · cases hw : wholeOf x.data.toList with
        | none => rfl
        | some r =>
          have hr := (rune_iff _ _).2 hw
          subst h0
          rw [dec_at, List.drop_zero, dec_self hr] at he
          rw [Lib.toList_data, Lib.toList_data, encode_rune hr] at he
          simp at he
      · exact hn
    · exact hn
  · refine .inl ⟨rfl, ?_⟩
    rw [Lib.toList_data, Lib.toList_data] at he
    have he := eq_of_beq he
    rw [he] at hd
    exact hd

set_option maxRecDepth 100000 in
set_option maxHeartbeats 800000 in
theorem read_short (s : ByteArray) (w : World) (h0 : 0 < s.size) (hs : s.size ≤ 1000000) (h4 : s.size ≤ 4) (ht : Tabs w) (hp : isPart s.data.toList = false) :
    Calls Tryd.prog 48 #[.string s] w fun e w' => e = .returned (shut s.data.toList) ∧ Below w.heap.size w w' := by
  have h1 := not_empty h0
  have HP := Lib.hid hp
  have HT := Lib.hid ht
  have HX : Hid (Cut s s) := Lib.hid (.inl rfl)
  have HX0 : Hid (0 < s.size) := Lib.hid h0
  clear hp ht
  go_enter Tryd.func48, Tryd.ntmps48
  go_wp2_with fail
  refine (full_any s _ h0 hs HT.out).mono ?_
  rw [HP.out]
  rintro e w' ⟨rfl, hb⟩
  go_wp2_with fail
  go_loopw [4] (fun _ wr => ∃ pos : Nat, wr = w'.iter s pos ∧ Hid (pos = 0 ∨ wholeOf s.data.toList = none)) (fun _ wr => (s).size - wr.iterPos w'.heap.size)
  case atStart => exact ⟨0, rfl, Lib.hid (.inl rfl)⟩
  case round =>
    obtain ⟨pos, rfl, HR⟩ := hrel
    by_cases hp : pos < (s).size
    · have hnx : ∀ ty, (Instr.next (.pointer (some ⟨w'.heap.size, 0, none⟩)) true ty).run Tryd.prog (w'.iter (s) pos) = _ := fun ty => run_next_any w' (s) pos ty hp
      have hk : 1 ≤ (Utf8.decode (s) pos).2 := by
        rw [dec_at]
        rcases dec_rune _ (drop_ne hp) with ⟨e, _⟩ | ⟨_, h, _⟩
        · rw [e]; exact Nat.le_refl _
        · exact h
      have hm := met HX.out hp HR.out
      generalize Utf8.decode (s) pos = d at hnx hk hm
      rcases hm with ⟨hE, hw⟩ | ⟨hE, hw⟩
      · have HW := Lib.hid (shut_some hw)
        clear hw
        go_wp2_with fail
        go_ret
        exact ⟨by rw [HW.out]; rfl, below_iter hb hb.size _ _⟩
      · have HW := Lib.hid hw
        clear hw
        go_wp2_with fail
        go_roundw
        case rel => exact ⟨pos + d.2, rfl, Lib.hid (.inr HW.out)⟩
        case measure =>
          simp only [World.iterPos_iter]
          omega
    · have hnx : ∀ ty, (Instr.next (.pointer (some ⟨w'.heap.size, 0, none⟩)) true ty).run Tryd.prog (w'.iter (s) pos) = _ := fun ty => run_next_end w' (s) pos ty hp
      have HN : Hid (shut s.data.toList = .iface 95 (.agg #[])) := Lib.hid (shut_none (by
        rcases HR.out with e | e
        · exfalso
          subst e
          exact hp HX0.out
        · exact e))
      go_wp2_with fail
      go_ret
      exact ⟨by rw [HN.out]; rfl, below_iter hb hb.size _ _⟩

set_option maxRecDepth 100000 in
set_option maxHeartbeats 800000 in
theorem read_long (s : ByteArray) (w : World) (h0 : 0 < s.size) (hs : s.size ≤ 1000000) (h4 : 4 < s.size) (ht : Tabs w) (hp : isPart s.data.toList = false) :
    Calls Tryd.prog 48 #[.string s] w fun e w' => e = .returned (shut s.data.toList) ∧ Below w.heap.size w w' := by
  have h1 := not_empty h0
  have HP := Lib.hid hp
  have HT := Lib.hid ht
  have HX : Hid (Cut (s.extract 0 4) s) := Lib.hid (.inr (by
    cases hw : wholeOf s.data.toList with
    | none => rfl
    | some r =>
      have := (rune_len ((rune_iff _ _).2 hw)).2
      have : s.data.toList.length = s.size := rfl
      omega))
  have HX0 : Hid (0 < (s.extract 0 4).size) := Lib.hid (by rw [ByteArray.size_extract]; omega)
  clear hp ht
  go_enter Tryd.func48, Tryd.ntmps48
  go_wp2_with fail
  refine (full_any s _ h0 hs HT.out).mono ?_
  rw [HP.out]
  rintro e w' ⟨rfl, hb⟩
  go_wp2_with fail
  go_loopw [4] (fun _ wr => ∃ pos : Nat, wr = w'.iter (s.extract 0 4) pos ∧ Hid (pos = 0 ∨ wholeOf s.data.toList = none)) (fun _ wr => (s.extract 0 4).size - wr.iterPos w'.heap.size)
  case atStart => exact ⟨0, rfl, Lib.hid (.inl rfl)⟩
  case round =>
    obtain ⟨pos, rfl, HR⟩ := hrel
    by_cases hp : pos < (s.extract 0 4).size
    · have hnx : ∀ ty, (Instr.next (.pointer (some ⟨w'.heap.size, 0, none⟩)) true ty).run Tryd.prog (w'.iter (s.extract 0 4) pos) = _ := fun ty => run_next_any w' (s.extract 0 4) pos ty hp
      have hk : 1 ≤ (Utf8.decode (s.extract 0 4) pos).2 := by
        rw [dec_at]
        rcases dec_rune _ (drop_ne hp) with ⟨e, _⟩ | ⟨_, h, _⟩
        · rw [e]; exact Nat.le_refl _
        · exact h
      have hm := met HX.out hp HR.out
      generalize Utf8.decode (s.extract 0 4) pos = d at hnx hk hm
      rcases hm with ⟨hE, hw⟩ | ⟨hE, hw⟩
      · have HW := Lib.hid (shut_some hw)
        clear hw
        go_wp2_with fail
        go_ret
        exact ⟨by rw [HW.out]; rfl, below_iter hb hb.size _ _⟩
      · have HW := Lib.hid hw
        clear hw
        go_wp2_with fail
        go_roundw
        case rel => exact ⟨pos + d.2, rfl, Lib.hid (.inr HW.out)⟩
        case measure =>
          simp only [World.iterPos_iter]
          omega
    · have hnx : ∀ ty, (Instr.next (.pointer (some ⟨w'.heap.size, 0, none⟩)) true ty).run Tryd.prog (w'.iter (s.extract 0 4) pos) = _ := fun ty => run_next_end w' (s.extract 0 4) pos ty hp
      have HN : Hid (shut s.data.toList = .iface 95 (.agg #[])) := Lib.hid (shut_none (by
        rcases HR.out with e | e
        · exfalso
          subst e
          exact hp HX0.out
        · exact e))
      go_wp2_with fail
      go_ret
      exact ⟨by rw [HN.out]; rfl, below_iter hb hb.size _ _⟩

set_option maxRecDepth 100000 in
set_option maxHeartbeats 800000 in
theorem read_nil (w : World) : Calls Tryd.prog 48 #[.string ⟨#[]⟩] w fun e w' => e = .returned (shut []) ∧ Below w.heap.size w w' := by
  have hnx : ∀ ty, (Instr.next (.pointer (some ⟨w.heap.size, 0, none⟩)) true ty).run Tryd.prog (w.iter ByteArray.empty 0) = _ := fun ty => run_next_end w ByteArray.empty 0 ty (by decide)
  go_enter Tryd.func48, Tryd.ntmps48
  go_wp2_with fail
  go_rounds 1
  go_ret
  exact ⟨rfl, below_iter (Below.refl _ _) (Nat.le_refl _) _ _⟩

/-- READ, of any text: what it is. -/
theorem read_any (s : ByteArray) (w : World) (hs : s.size ≤ 1000000) (ht : Tabs w) :
    Calls Tryd.prog 48 #[.string s] w fun e w' => e = .returned (pieceOf s.data.toList) ∧ Below w.heap.size w w' := by
  cases hp : isPart s.data.toList
  · have hv : pieceOf s.data.toList = shut s.data.toList := by unfold pieceOf; rw [hp]; rfl
    rw [hv]
    by_cases h0 : 0 < s.size
    · by_cases h4 : s.size ≤ 4
      · exact read_short s w h0 hs h4 ht hp
      · exact read_long s w h0 hs (by omega) ht hp
    · obtain ⟨⟨l⟩⟩ := s
      match l, h0 with
      | [], _ => exact read_nil w
      | _ :: _, h0 => exact absurd (by show 0 < _; simp [ByteArray.size]) h0
  · have hv : pieceOf s.data.toList = .iface 73 (.string s) := by
      unfold pieceOf; rw [hp, if_pos rfl]
    rw [hv]
    exact read_part s w hs ht hp
end Utf
end Go.Proofs.YtjodbmfjdpbbnaaDoor
