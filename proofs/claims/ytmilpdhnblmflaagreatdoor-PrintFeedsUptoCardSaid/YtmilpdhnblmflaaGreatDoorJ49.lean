/- Joined texts: PrnSmall. -/
import Derived.Test.YtmilpdhnblmflaaGreatDoorJ1
import Derived.Test.YtmilpdhnblmflaaGreatDoorJ2
import Derived.Test.YtmilpdhnblmflaaGreatDoorJ3
import Derived.Test.YtmilpdhnblmflaaGreatDoorJ4
import Derived.Test.YtmilpdhnblmflaaGreatDoorJ5
import Derived.Test.YtmilpdhnblmflaaGreatDoorJ6
import Derived.Test.YtmilpdhnblmflaaGreatDoorJ7
import Derived.Test.YtmilpdhnblmflaaGreatDoorJ8
import Derived.Test.YtmilpdhnblmflaaGreatDoorJ9
import Derived.Test.YtmilpdhnblmflaaGreatDoorJ10
import Derived.Test.YtmilpdhnblmflaaGreatDoorJ11
import Derived.Test.YtmilpdhnblmflaaGreatDoorJ12
import Derived.Test.YtmilpdhnblmflaaGreatDoorJ13
import Derived.Test.YtmilpdhnblmflaaGreatDoorJ14
import Derived.Test.YtmilpdhnblmflaaGreatDoorJ15
import Derived.Test.YtmilpdhnblmflaaGreatDoorJ17
import Derived.Test.YtmilpdhnblmflaaGreatDoorJ18
import Derived.Test.YtmilpdhnblmflaaGreatDoorJ19
import Derived.Test.YtmilpdhnblmflaaGreatDoorJ20
import Derived.Test.YtmilpdhnblmflaaGreatDoorJ21
import Derived.Test.YtmilpdhnblmflaaGreatDoorJ22
import Derived.Test.YtmilpdhnblmflaaGreatDoorJ23
import Derived.Test.YtmilpdhnblmflaaGreatDoorJ24
import Derived.Test.YtmilpdhnblmflaaGreatDoorJ27
import Derived.Test.YtmilpdhnblmflaaGreatDoorJ33
import Derived.Test.YtmilpdhnblmflaaGreatDoorJ43
import Derived.Test.YtmilpdhnblmflaaGreatDoorJ44
import Derived.Test.YtmilpdhnblmflaaGreatDoorJ45
import Derived.Test.YtmilpdhnblmflaaGreatDoorJ46
import Derived.Test.YtmilpdhnblmflaaGreatDoorJ47
import Derived.Test.YtmilpdhnblmflaaGreatDoorJ48
section
/- What a rune is to the cursor; modes; the cursor's row: the developers'. -/
namespace Go.Proofs.YtmilpdhnblmflaaGreatDoor
set_option maxRecDepth 100000
open Go.RowKit
namespace Scr
open Go.Proofs.YtmilpdhnblmflaaGreatDoor.Row Wid

@[go_sem] theorem is_none_none (v : Value) (w : World) : (Instr.typeAssert (.iface 101 v) 98 101 true).run Tryz.prog w = .ok (.tuple #[v, .bool true]) w := by kernel_rfl
@[go_sem] theorem is_none_mark (v : Value) (w : World) : (Instr.typeAssert (.iface 103 v) 98 101 true).run Tryz.prog w = .ok (.tuple #[.agg #[], .bool false]) w := by kernel_rfl
@[go_sem] theorem is_none_body (v : Value) (w : World) : (Instr.typeAssert (.iface 108 v) 98 101 true).run Tryz.prog w = .ok (.tuple #[.agg #[], .bool false]) w := by kernel_rfl
@[go_sem] theorem is_mark_mark (v : Value) (w : World) : (Instr.typeAssert (.iface 103 v) 98 103 true).run Tryz.prog w = .ok (.tuple #[v, .bool true]) w := by kernel_rfl
@[go_sem] theorem is_mark_body (v : Value) (w : World) : (Instr.typeAssert (.iface 108 v) 98 103 true).run Tryz.prog w = .ok (.tuple #[.int .i64 0, .bool false]) w := by kernel_rfl
@[go_sem] theorem must_body (v : Value) (w : World) : (Instr.typeAssert (.iface 108 v) 98 108 false).run Tryz.prog w = .ok v w := by kernel_rfl
abbrev bodyV (r : Int) (n : Nat) : Value := .agg #[.int .i64 r, .int .i64 n]
theorem look_body (r : Int) (n : Nat) (h : wid r = n) (hn : n = 1 ∨ n = 2) (w : World) : Calls Tryz.prog 58 #[.int .i64 r] w fun e w' => e = .returned (.iface 108 (bodyV r n)) ∧ Below w.heap.size w w' := by
  have HO := Lib.hid (Row.of_any r w)
  rw [h] at HO
  clear h
  go_enter Tryz.func58, Tryz.ntmps58
  go_wp2_with fail
  refine HO.out.mono ?_; rintro e w1 ⟨rfl, hb⟩
  have HB := Lib.hid hb
  clear hb HO
  rcases hn with rfl | rfl
  · go_wp2_with fail
    go_ret
    exact ⟨rfl, HB.out⟩
  · go_wp2_with fail
    go_ret
    exact ⟨rfl, HB.out⟩
theorem look_mark (r : Int) (h : wid r = 0) (w : World) : Calls Tryz.prog 58 #[.int .i64 r] w fun e w' => e = .returned (.iface 103 (.int .i64 r)) ∧ Below w.heap.size w w' := by
  have HO := Lib.hid (Row.of_any r w)
  rw [h] at HO
  clear h
  go_enter Tryz.func58, Tryz.ntmps58
  go_wp2_with fail
  refine HO.out.mono ?_; rintro e w1 ⟨rfl, hb⟩
  have HB := Lib.hid hb
  clear hb HO
  go_wp2_with fail
  go_ret
  exact ⟨rfl, HB.out⟩
theorem look_none (r : Int) (h : wid r = -1) (w : World) : Calls Tryz.prog 58 #[.int .i64 r] w fun e w' => e = .returned (.iface 101 (.agg #[])) ∧ Below w.heap.size w w' := by
  have HO := Lib.hid (Row.of_any r w)
  rw [h] at HO
  clear h
  go_enter Tryz.func58, Tryz.ntmps58
  go_wp2_with fail
  refine HO.out.mono ?_; rintro e w1 ⟨rfl, hb⟩
  have HB := Lib.hid hb
  clear hb HO
  go_wp2_with fail
  go_ret
  exact ⟨rfl, HB.out⟩
/-- Is a mode among these? -/
def hasB (n m : Int) : Bool := !(bits .and .i64 n m == 0)
theorem has_any (s : S) (x y z : Value) (b : Nat) (m : Int) (w : World) (h : SBox w b s x y z) : Calls Tryz.prog 103 #[.pointer (some ⟨b, 0, none⟩), .int .i64 m] w fun e w' => e = .returned (.bool (hasB s.modes m)) ∧ w' = w := by
  have c40 : w.cell? ⟨b, 40, none⟩ = some (.int .i64 s.modes) := h.cell 40
  clear h
  have HH : Hid (hasB s.modes m = !(bits .and .i64 s.modes m == 0)) := Lib.hid rfl
  go_enter Tryz.func103, Tryz.ntmps103
  go_wp2_with fail
  go_ret
  exact ⟨by rw [HH.out]; rfl, rfl⟩
end Scr
end Go.Proofs.YtmilpdhnblmflaaGreatDoor
end
