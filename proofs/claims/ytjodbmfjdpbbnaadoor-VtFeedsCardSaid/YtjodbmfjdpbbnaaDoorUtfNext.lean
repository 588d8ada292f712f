/- Contracts of package utf: Next, Flush. -/
import Derived.Test.YtjodbmfjdpbbnaaDoorUtfStep
namespace Go.Proofs.YtjodbmfjdpbbnaaDoor
open Go.RowKit
namespace Utf

/-- What a call answers that makes runes, a part and an error. -/
def Gives3 (w : World) (x : List Int × List UInt8) (n : Int) (e : Ending) (w' : World) : Prop :=
  ∃ v, e = .returned (.tuple #[v, .string ⟨x.2.toArray⟩, .int .i64 n]) ∧ w'.ownsRow w.heap.size 3 1 v x.1.length (ints x.1) ∧ Below w.heap.size w w'
theorem Gives3.mk_ {w w' : World} {x : List Int × List UInt8} {v : Value} {xs : List Int} {q : List UInt8} {n : Int} (hx : x = (xs, q)) (ho : w'.ownsRow w.heap.size 3 1 v xs.length (ints xs)) (hb : Below w.heap.size w w') :
    Gives3 w x n (.returned (.tuple #[v, .string ⟨q.toArray⟩, .int .i64 n])) w' := by
  subst hx; exact ⟨v, rfl, ho, hb⟩

set_option maxHeartbeats 800000 in
theorem utfNext_bad (s : ByteArray) (b : Int) (w : World) (hs : s.size ≤ 1000000) (ht : Tabs w) (hf : fits s.data.toList = false) :
    Calls Tryd.prog 67 #[.string s, .int .u8 b] w (Gives3 w ([], []) 1) := by
  have HF := Lib.hid hf
  have HT := Lib.hid ht
  clear hf ht
  go_enter Tryd.func67, Tryd.ntmps67
  go_wp2_with fail
  refine (fits_any s _ hs HT.out).mono ?_
  rw [HF.out]
  rintro e w1 ⟨rfl, hb1⟩
  go_wp2_with fail
  go_ret3
  exact Gives3.mk_ rfl (World.ownsRow_nil _ _ _ _) hb1

set_option maxHeartbeats 800000 in
theorem utfNext_any (s : ByteArray) (l : List UInt8) (hl : s.data.toList = l) (b : UInt8) {x : Int} (hx : x = b.toNat) (w : World) (ht : Tabs w) (hf : fits l = true) :
    Calls Tryd.prog 67 #[.string s, .int .u8 x] w (Gives3 w (next l b) 0) := by
  subst hx
  have hb := byte_lt b
  have hsz : s.size ≤ 1000000 := by
    have h := fits_len hf
    have : s.size = l.length := by rw [← hl]; rfl
    omega
  have HF : Hid (fits s.data.toList = true) := Lib.hid (by rw [hl]; exact hf)
  have HL := Lib.hid hl
  have HT := Lib.hid ht
  have HF2 := Lib.hid hf
  clear hf ht hl
  go_enter Tryd.func67, Tryd.ntmps67
  go_wp2_with fail
  refine (fits_any s _ hsz HT.out).mono ?_
  rw [HF.out]
  rintro e w1 ⟨rfl, hb1⟩
  have z1 := hb1.size
  have z2 := Lib.hid HT.out.1
  go_wp2_with fail
  refine (step_any (.slice none 0 0) [] w.heap.size s l HL.out b _ ⟨z2.out, z1⟩ (World.ownsRow_nil _ _ _ _) (by simp) (HT.out.kept hb1) HF2.out).mono ?_
  rintro e w2 ⟨u, rfl, hp⟩
  have hp := (Puts.same (xs := []) (World.ownsRow_nil w w.heap.size 3 1) hb1).trans hp
  go_wp2_with fail
  go_ret3
  exact Gives3.mk_ rfl hp.1 (hp.below_ (zs := []) (World.ownsRow_nil _ _ _ _) (Nat.le_refl _))

theorem utfFlush_any (s : ByteArray) (w : World) (hs : s.size ≤ 1000000) (ht : Tabs w) (hf : fits s.data.toList = true) :
    Calls Tryd.prog 51 #[.string s] w fun e w' => ∃ v, e = .returned (.tuple #[v, .int .i64 0]) ∧ w'.ownsRow w.heap.size 3 1 v (brk s.data.toList).length (ints (brk s.data.toList)) ∧ Below w.heap.size w w' := by
  have HF := Lib.hid hf
  have HT := Lib.hid ht
  clear hf ht
  go_enter Tryd.func51, Tryd.ntmps51
  go_wp2_with fail
  refine (fits_any s _ hs HT.out).mono ?_
  rw [HF.out]
  rintro e w1 ⟨rfl, hb1⟩
  have z1 := hb1.size
  go_wp2_with fail
  refine (broken_any (.slice none 0 0) [] w.heap.size s _ rfl _ (World.ownsRow_nil _ _ _ _) (by simp) z1).mono ?_
  rintro e w2 ⟨u, rfl, hp⟩
  have hp := (Puts.same (xs := []) (World.ownsRow_nil w w.heap.size 3 1) hb1).trans hp
  go_wp2_with fail
  go_ret2
  exact ⟨_, rfl, hp.1, hp.below_ (zs := []) (World.ownsRow_nil _ _ _ _) (Nat.le_refl _)⟩
theorem utfFlush_bad (s : ByteArray) (w : World) (hs : s.size ≤ 1000000) (ht : Tabs w) (hf : fits s.data.toList = false) :
    Calls Tryd.prog 51 #[.string s] w fun e w' => ∃ v, e = .returned (.tuple #[v, .int .i64 1]) ∧ w'.ownsRow w.heap.size 3 1 v 0 (ints []) ∧ Below w.heap.size w w' := by
  have HF := Lib.hid hf
  have HT := Lib.hid ht
  clear hf ht
  go_enter Tryd.func51, Tryd.ntmps51
  go_wp2_with fail
  refine (fits_any s _ hs HT.out).mono ?_
  rw [HF.out]
  rintro e w1 ⟨rfl, hb1⟩
  go_wp2_with fail
  go_ret2
  exact ⟨_, rfl, World.ownsRow_nil _ _ _ _, hb1⟩

end Utf
end Go.Proofs.YtjodbmfjdpbbnaaDoor
