/- Joined texts: CurLaws. -/
import Derived.Test.YtgjpojaegjdjcabDoorJ1
import Derived.Test.YtgjpojaegjdjcabDoorJ2
import Derived.Test.YtgjpojaegjdjcabDoorJ3
import Derived.Test.YtgjpojaegjdjcabDoorJ4
import Derived.Test.YtgjpojaegjdjcabDoorJ5
import Derived.Test.YtgjpojaegjdjcabDoorJ6
import Derived.Test.YtgjpojaegjdjcabDoorJ7
import Derived.Test.YtgjpojaegjdjcabDoorJ8
import Derived.Test.YtgjpojaegjdjcabDoorJ9
import Derived.Test.YtgjpojaegjdjcabDoorJ10
import Derived.Test.YtgjpojaegjdjcabDoorJ11
import Derived.Test.YtgjpojaegjdjcabDoorJ12
import Derived.Test.YtgjpojaegjdjcabDoorJ13
import Derived.Test.YtgjpojaegjdjcabDoorJ14
import Derived.Test.YtgjpojaegjdjcabDoorJ15
import Derived.Test.YtgjpojaegjdjcabDoorJ17
import Derived.Test.YtgjpojaegjdjcabDoorJ18
import Derived.Test.YtgjpojaegjdjcabDoorJ19
import Derived.Test.YtgjpojaegjdjcabDoorJ20
import Derived.Test.YtgjpojaegjdjcabDoorJ21
import Derived.Test.YtgjpojaegjdjcabDoorJ22
import Derived.Test.YtgjpojaegjdjcabDoorJ23
import Derived.Test.YtgjpojaegjdjcabDoorJ24
import Derived.Test.YtgjpojaegjdjcabDoorJ25
import Derived.Test.YtgjpojaegjdjcabDoorJ26
import Derived.Test.YtgjpojaegjdjcabDoorJ29
import Derived.Test.YtgjpojaegjdjcabDoorJ30
import Derived.Test.YtgjpojaegjdjcabDoorJ31
import Derived.Test.YtgjpojaegjdjcabDoorJ43
import Derived.Test.YtgjpojaegjdjcabDoorJ61
import Derived.Test.YtgjpojaegjdjcabDoorJ62
import Derived.Test.YtgjpojaegjdjcabDoorJ63
import Derived.Test.YtgjpojaegjdjcabDoorJ64
import Derived.Test.YtgjpojaegjdjcabDoorJ65
import Derived.Test.YtgjpojaegjdjcabDoorJ66
import Derived.Test.YtgjpojaegjdjcabDoorJ67
import Derived.Test.YtgjpojaegjdjcabDoorJ68
import Derived.Test.YtgjpojaegjdjcabDoorJ69
import Derived.Test.YtgjpojaegjdjcabDoorJ70
import Derived.Test.YtgjpojaegjdjcabDoorJ71
import Derived.Test.YtgjpojaegjdjcabDoorJ72
import Derived.Test.YtgjpojaegjdjcabDoorJ73
section
/- The laws on a cursor led by keys: each is the one law by its own keys. -/
namespace Go.Proofs.YtgjpojaegjdjcabDoor
set_option maxRecDepth 100000
open Go.RowKit
namespace Scr
open Go.Proofs.YtgjpojaegjdjcabDoor.Row

theorem kv_one (w : World) (a : Int) (t : TypeId) : Kv (w.alloc (.cells #[.int .i64 a] t)) w.heap.size [a] := by
  have hx : (w.alloc (.cells #[.int .i64 a] t)).heap[w.heap.size]? = some (.cells #[.int .i64 a] t (0, 0)) := heap_alloc_new _ _
  intro i hi
  obtain rfl : i = 0 := by simp at hi; omega
  exact Blk.cell hx 0
theorem kv_two (w : World) (a b : Int) (t : TypeId) : Kv (w.alloc (.cells #[.int .i64 a, .int .i64 b] t)) w.heap.size [a, b] := by
  have hx : (w.alloc (.cells #[.int .i64 a, .int .i64 b] t)).heap[w.heap.size]? = some (.cells #[.int .i64 a, .int .i64 b] t (0, 0)) := heap_alloc_new _ _
  intro i hi
  have h2 : i = 0 ∨ i = 1 := by simp at hi; omega
  rcases h2 with rfl | rfl
  · exact Blk.cell hx 0
  · exact Blk.cell hx 1
theorem kv_three (w : World) (a b c : Int) (t : TypeId) : Kv (w.alloc (.cells #[.int .i64 a, .int .i64 b, .int .i64 c] t)) w.heap.size [a, b, c] := by
  have hx : (w.alloc (.cells #[.int .i64 a, .int .i64 b, .int .i64 c] t)).heap[w.heap.size]? = some (.cells #[.int .i64 a, .int .i64 b, .int .i64 c] t (0, 0)) := heap_alloc_new _ _
  intro i hi
  have h3 : i = 0 ∨ i = 1 ∨ i = 2 := by simp at hi; omega
  rcases h3 with rfl | rfl | rfl
  · exact Blk.cell hx 0
  · exact Blk.cell hx 1
  · exact Blk.cell hx 2
/-- Behind two new blocks. -/
theorem two_new (w : World) (a b : Obj) : Below w.heap.size w ((w.alloc a).alloc b) := (bel_alloc w a).trans ((bel_alloc (w.alloc a) b).mono (by simp))
set_option maxHeartbeats 400000 in
theorem lawCursorBigD_any (v : Value) (l : List Sc) (n m k r : Int) (w : World) (h : Scrs 1048576 w v l) (hl : l.length ≤ 140737488355328) (hT : Tabs w) :
    Calls Tryd.prog 3 #[.agg #[v, .int .i64 n, .int .i64 m, .int .i64 k, .int .i64 r]] w fun e w' => e = .returned (.bool true) ∧ Below w.heap.size w w' := by
  have HB := Lib.hid (two_new w (abox v n m k r) (.cells #[.int .i64 68] 3))
  have HM := Lib.hid (moves_any v l n m k r [68] (w.alloc (abox v n m k r)).heap.size 1 ((w.alloc (abox v n m k r)).alloc (.cells #[.int .i64 68] 3)) (h.kept HB.out) hl (hT.kept HB.out) (kv_one _ 68 _) (by simp))
  have HZ : Hid ((w.alloc (abox v n m k r)).heap.size = w.heap.size + 1) := Lib.hid (by simp)
  rw [HZ.out] at HM
  have HL : Hid (([68] : List Int).length = 1) := Lib.hid rfl
  rw [HL.out] at HM
  obtain ⟨⟨A, c, rfl, _⟩, _⟩ := id h
  have b0 : (w.alloc (abox (.slice A l.length c) n m k r)).cell? ⟨w.heap.size, 0, none⟩ = some (.slice A l.length c) := Blk.cell (heap_alloc_new w _) 0
  have b1 : (w.alloc (abox (.slice A l.length c) n m k r)).cell? ⟨w.heap.size, 1, none⟩ = some (.int .i64 n) := Blk.cell (heap_alloc_new w _) 1
  have b2 : (w.alloc (abox (.slice A l.length c) n m k r)).cell? ⟨w.heap.size, 2, none⟩ = some (.int .i64 m) := Blk.cell (heap_alloc_new w _) 2
  have b3 : (w.alloc (abox (.slice A l.length c) n m k r)).cell? ⟨w.heap.size, 3, none⟩ = some (.int .i64 k) := Blk.cell (heap_alloc_new w _) 3
  have b4 : (w.alloc (abox (.slice A l.length c) n m k r)).cell? ⟨w.heap.size, 4, none⟩ = some (.int .i64 r) := Blk.cell (heap_alloc_new w _) 4
  clear h hl hT HL HZ
  generalize l.length = q at *
  go_enter Tryd.func3, Tryd.ntmps3
  go_wp2_with fail
  refine HM.out.mono ?_; rintro e w2 ⟨rfl, hb⟩
  have HE := Lib.hid (HB.out.trans (hb.mono HB.out.size))
  clear hb HM HB
  go_wp2_with fail
  go_ret
  exact ⟨rfl, HE.out⟩
set_option maxHeartbeats 400000 in
theorem lawCursorBigE_any (v : Value) (l : List Sc) (n m k r : Int) (w : World) (h : Scrs 1048576 w v l) (hl : l.length ≤ 140737488355328) (hT : Tabs w) :
    Calls Tryd.prog 4 #[.agg #[v, .int .i64 n, .int .i64 m, .int .i64 k, .int .i64 r]] w fun e w' => e = .returned (.bool true) ∧ Below w.heap.size w w' := by
  have HB := Lib.hid (two_new w (abox v n m k r) (.cells #[.int .i64 69] 3))
  have HM := Lib.hid (moves_any v l n m k r [69] (w.alloc (abox v n m k r)).heap.size 1 ((w.alloc (abox v n m k r)).alloc (.cells #[.int .i64 69] 3)) (h.kept HB.out) hl (hT.kept HB.out) (kv_one _ 69 _) (by simp))
  have HZ : Hid ((w.alloc (abox v n m k r)).heap.size = w.heap.size + 1) := Lib.hid (by simp)
  rw [HZ.out] at HM
  have HL : Hid (([69] : List Int).length = 1) := Lib.hid rfl
  rw [HL.out] at HM
  obtain ⟨⟨A, c, rfl, _⟩, _⟩ := id h
  have b0 : (w.alloc (abox (.slice A l.length c) n m k r)).cell? ⟨w.heap.size, 0, none⟩ = some (.slice A l.length c) := Blk.cell (heap_alloc_new w _) 0
  have b1 : (w.alloc (abox (.slice A l.length c) n m k r)).cell? ⟨w.heap.size, 1, none⟩ = some (.int .i64 n) := Blk.cell (heap_alloc_new w _) 1
  have b2 : (w.alloc (abox (.slice A l.length c) n m k r)).cell? ⟨w.heap.size, 2, none⟩ = some (.int .i64 m) := Blk.cell (heap_alloc_new w _) 2
  have b3 : (w.alloc (abox (.slice A l.length c) n m k r)).cell? ⟨w.heap.size, 3, none⟩ = some (.int .i64 k) := Blk.cell (heap_alloc_new w _) 3
  have b4 : (w.alloc (abox (.slice A l.length c) n m k r)).cell? ⟨w.heap.size, 4, none⟩ = some (.int .i64 r) := Blk.cell (heap_alloc_new w _) 4
  clear h hl hT HL HZ
  generalize l.length = q at *
  go_enter Tryd.func4, Tryd.ntmps4
  go_wp2_with fail
  refine HM.out.mono ?_; rintro e w2 ⟨rfl, hb⟩
  have HE := Lib.hid (HB.out.trans (hb.mono HB.out.size))
  clear hb HM HB
  go_wp2_with fail
  go_ret
  exact ⟨rfl, HE.out⟩
set_option maxHeartbeats 400000 in
theorem lawCursorBigF_any (v : Value) (l : List Sc) (n m k r : Int) (w : World) (h : Scrs 1048576 w v l) (hl : l.length ≤ 140737488355328) (hT : Tabs w) :
    Calls Tryd.prog 5 #[.agg #[v, .int .i64 n, .int .i64 m, .int .i64 k, .int .i64 r]] w fun e w' => e = .returned (.bool true) ∧ Below w.heap.size w w' := by
  have HB := Lib.hid (two_new w (abox v n m k r) (.cells #[.int .i64 70] 3))
  have HM := Lib.hid (moves_any v l n m k r [70] (w.alloc (abox v n m k r)).heap.size 1 ((w.alloc (abox v n m k r)).alloc (.cells #[.int .i64 70] 3)) (h.kept HB.out) hl (hT.kept HB.out) (kv_one _ 70 _) (by simp))
  have HZ : Hid ((w.alloc (abox v n m k r)).heap.size = w.heap.size + 1) := Lib.hid (by simp)
  rw [HZ.out] at HM
  have HL : Hid (([70] : List Int).length = 1) := Lib.hid rfl
  rw [HL.out] at HM
  obtain ⟨⟨A, c, rfl, _⟩, _⟩ := id h
  have b0 : (w.alloc (abox (.slice A l.length c) n m k r)).cell? ⟨w.heap.size, 0, none⟩ = some (.slice A l.length c) := Blk.cell (heap_alloc_new w _) 0
  have b1 : (w.alloc (abox (.slice A l.length c) n m k r)).cell? ⟨w.heap.size, 1, none⟩ = some (.int .i64 n) := Blk.cell (heap_alloc_new w _) 1
  have b2 : (w.alloc (abox (.slice A l.length c) n m k r)).cell? ⟨w.heap.size, 2, none⟩ = some (.int .i64 m) := Blk.cell (heap_alloc_new w _) 2
  have b3 : (w.alloc (abox (.slice A l.length c) n m k r)).cell? ⟨w.heap.size, 3, none⟩ = some (.int .i64 k) := Blk.cell (heap_alloc_new w _) 3
  have b4 : (w.alloc (abox (.slice A l.length c) n m k r)).cell? ⟨w.heap.size, 4, none⟩ = some (.int .i64 r) := Blk.cell (heap_alloc_new w _) 4
  clear h hl hT HL HZ
  generalize l.length = q at *
  go_enter Tryd.func5, Tryd.ntmps5
  go_wp2_with fail
  refine HM.out.mono ?_; rintro e w2 ⟨rfl, hb⟩
  have HE := Lib.hid (HB.out.trans (hb.mono HB.out.size))
  clear hb HM HB
  go_wp2_with fail
  go_ret
  exact ⟨rfl, HE.out⟩
set_option maxHeartbeats 400000 in
theorem lawCursorBigG_any (v : Value) (l : List Sc) (n m k r : Int) (w : World) (h : Scrs 1048576 w v l) (hl : l.length ≤ 140737488355328) (hT : Tabs w) :
    Calls Tryd.prog 6 #[.agg #[v, .int .i64 n, .int .i64 m, .int .i64 k, .int .i64 r]] w fun e w' => e = .returned (.bool true) ∧ Below w.heap.size w w' := by
  have HB := Lib.hid (two_new w (abox v n m k r) (.cells #[.int .i64 71] 3))
  have HM := Lib.hid (moves_any v l n m k r [71] (w.alloc (abox v n m k r)).heap.size 1 ((w.alloc (abox v n m k r)).alloc (.cells #[.int .i64 71] 3)) (h.kept HB.out) hl (hT.kept HB.out) (kv_one _ 71 _) (by simp))
  have HZ : Hid ((w.alloc (abox v n m k r)).heap.size = w.heap.size + 1) := Lib.hid (by simp)
  rw [HZ.out] at HM
  have HL : Hid (([71] : List Int).length = 1) := Lib.hid rfl
  rw [HL.out] at HM
  obtain ⟨⟨A, c, rfl, _⟩, _⟩ := id h
  have b0 : (w.alloc (abox (.slice A l.length c) n m k r)).cell? ⟨w.heap.size, 0, none⟩ = some (.slice A l.length c) := Blk.cell (heap_alloc_new w _) 0
  have b1 : (w.alloc (abox (.slice A l.length c) n m k r)).cell? ⟨w.heap.size, 1, none⟩ = some (.int .i64 n) := Blk.cell (heap_alloc_new w _) 1
  have b2 : (w.alloc (abox (.slice A l.length c) n m k r)).cell? ⟨w.heap.size, 2, none⟩ = some (.int .i64 m) := Blk.cell (heap_alloc_new w _) 2
  have b3 : (w.alloc (abox (.slice A l.length c) n m k r)).cell? ⟨w.heap.size, 3, none⟩ = some (.int .i64 k) := Blk.cell (heap_alloc_new w _) 3
  have b4 : (w.alloc (abox (.slice A l.length c) n m k r)).cell? ⟨w.heap.size, 4, none⟩ = some (.int .i64 r) := Blk.cell (heap_alloc_new w _) 4
  clear h hl hT HL HZ
  generalize l.length = q at *
  go_enter Tryd.func6, Tryd.ntmps6
  go_wp2_with fail
  refine HM.out.mono ?_; rintro e w2 ⟨rfl, hb⟩
  have HE := Lib.hid (HB.out.trans (hb.mono HB.out.size))
  clear hb HM HB
  go_wp2_with fail
  go_ret
  exact ⟨rfl, HE.out⟩
set_option maxHeartbeats 400000 in
theorem lawCursorD_any (v : Value) (l : List Sc) (n m k r : Int) (w : World) (h : Scrs 1048576 w v l) (hl : l.length ≤ 140737488355328) (hT : Tabs w) :
    Calls Tryd.prog 7 #[.agg #[v, .int .i64 n, .int .i64 m, .int .i64 k, .int .i64 r]] w fun e w' => e = .returned (.bool true) ∧ Below w.heap.size w w' := by
  have HB := Lib.hid (two_new w (abox v n m k r) (.cells #[.int .i64 100] 3))
  have HM := Lib.hid (moves_any v l n m k r [100] (w.alloc (abox v n m k r)).heap.size 1 ((w.alloc (abox v n m k r)).alloc (.cells #[.int .i64 100] 3)) (h.kept HB.out) hl (hT.kept HB.out) (kv_one _ 100 _) (by simp))
  have HZ : Hid ((w.alloc (abox v n m k r)).heap.size = w.heap.size + 1) := Lib.hid (by simp)
  rw [HZ.out] at HM
  have HL : Hid (([100] : List Int).length = 1) := Lib.hid rfl
  rw [HL.out] at HM
  obtain ⟨⟨A, c, rfl, _⟩, _⟩ := id h
  have b0 : (w.alloc (abox (.slice A l.length c) n m k r)).cell? ⟨w.heap.size, 0, none⟩ = some (.slice A l.length c) := Blk.cell (heap_alloc_new w _) 0
  have b1 : (w.alloc (abox (.slice A l.length c) n m k r)).cell? ⟨w.heap.size, 1, none⟩ = some (.int .i64 n) := Blk.cell (heap_alloc_new w _) 1
  have b2 : (w.alloc (abox (.slice A l.length c) n m k r)).cell? ⟨w.heap.size, 2, none⟩ = some (.int .i64 m) := Blk.cell (heap_alloc_new w _) 2
  have b3 : (w.alloc (abox (.slice A l.length c) n m k r)).cell? ⟨w.heap.size, 3, none⟩ = some (.int .i64 k) := Blk.cell (heap_alloc_new w _) 3
  have b4 : (w.alloc (abox (.slice A l.length c) n m k r)).cell? ⟨w.heap.size, 4, none⟩ = some (.int .i64 r) := Blk.cell (heap_alloc_new w _) 4
  clear h hl hT HL HZ
  generalize l.length = q at *
  go_enter Tryd.func7, Tryd.ntmps7
  go_wp2_with fail
  refine HM.out.mono ?_; rintro e w2 ⟨rfl, hb⟩
  have HE := Lib.hid (HB.out.trans (hb.mono HB.out.size))
  clear hb HM HB
  go_wp2_with fail
  go_ret
  exact ⟨rfl, HE.out⟩
set_option maxHeartbeats 400000 in
theorem lawCursorBigH_any (v : Value) (l : List Sc) (n m k r : Int) (w : World) (h : Scrs 1048576 w v l) (hl : l.length ≤ 140737488355328) (hT : Tabs w) :
    Calls Tryd.prog 8 #[.agg #[v, .int .i64 n, .int .i64 m, .int .i64 k, .int .i64 r]] w fun e w' => e = .returned (.bool true) ∧ Below w.heap.size w w' := by
  have HB := Lib.hid (two_new w (abox v n m k r) (.cells #[.int .i64 72] 3))
  have HM := Lib.hid (moves_any v l n m k r [72] (w.alloc (abox v n m k r)).heap.size 1 ((w.alloc (abox v n m k r)).alloc (.cells #[.int .i64 72] 3)) (h.kept HB.out) hl (hT.kept HB.out) (kv_one _ 72 _) (by simp))
  have HZ : Hid ((w.alloc (abox v n m k r)).heap.size = w.heap.size + 1) := Lib.hid (by simp)
  rw [HZ.out] at HM
  have HL : Hid (([72] : List Int).length = 1) := Lib.hid rfl
  rw [HL.out] at HM
  obtain ⟨⟨A, c, rfl, _⟩, _⟩ := id h
  have b0 : (w.alloc (abox (.slice A l.length c) n m k r)).cell? ⟨w.heap.size, 0, none⟩ = some (.slice A l.length c) := Blk.cell (heap_alloc_new w _) 0
  have b1 : (w.alloc (abox (.slice A l.length c) n m k r)).cell? ⟨w.heap.size, 1, none⟩ = some (.int .i64 n) := Blk.cell (heap_alloc_new w _) 1
  have b2 : (w.alloc (abox (.slice A l.length c) n m k r)).cell? ⟨w.heap.size, 2, none⟩ = some (.int .i64 m) := Blk.cell (heap_alloc_new w _) 2
  have b3 : (w.alloc (abox (.slice A l.length c) n m k r)).cell? ⟨w.heap.size, 3, none⟩ = some (.int .i64 k) := Blk.cell (heap_alloc_new w _) 3
  have b4 : (w.alloc (abox (.slice A l.length c) n m k r)).cell? ⟨w.heap.size, 4, none⟩ = some (.int .i64 r) := Blk.cell (heap_alloc_new w _) 4
  clear h hl hT HL HZ
  generalize l.length = q at *
  go_enter Tryd.func8, Tryd.ntmps8
  go_wp2_with fail
  refine HM.out.mono ?_; rintro e w2 ⟨rfl, hb⟩
  have HE := Lib.hid (HB.out.trans (hb.mono HB.out.size))
  clear hb HM HB
  go_wp2_with fail
  go_ret
  exact ⟨rfl, HE.out⟩
set_option maxHeartbeats 400000 in
theorem lawCursorBigI_any (v : Value) (l : List Sc) (n m k r : Int) (w : World) (h : Scrs 1048576 w v l) (hl : l.length ≤ 140737488355328) (hT : Tabs w) :
    Calls Tryd.prog 9 #[.agg #[v, .int .i64 n, .int .i64 m, .int .i64 k, .int .i64 r]] w fun e w' => e = .returned (.bool true) ∧ Below w.heap.size w w' := by
  have HB := Lib.hid (two_new w (abox v n m k r) (.cells #[.int .i64 73] 3))
  have HM := Lib.hid (moves_any v l n m k r [73] (w.alloc (abox v n m k r)).heap.size 1 ((w.alloc (abox v n m k r)).alloc (.cells #[.int .i64 73] 3)) (h.kept HB.out) hl (hT.kept HB.out) (kv_one _ 73 _) (by simp))
  have HZ : Hid ((w.alloc (abox v n m k r)).heap.size = w.heap.size + 1) := Lib.hid (by simp)
  rw [HZ.out] at HM
  have HL : Hid (([73] : List Int).length = 1) := Lib.hid rfl
  rw [HL.out] at HM
  obtain ⟨⟨A, c, rfl, _⟩, _⟩ := id h
  have b0 : (w.alloc (abox (.slice A l.length c) n m k r)).cell? ⟨w.heap.size, 0, none⟩ = some (.slice A l.length c) := Blk.cell (heap_alloc_new w _) 0
  have b1 : (w.alloc (abox (.slice A l.length c) n m k r)).cell? ⟨w.heap.size, 1, none⟩ = some (.int .i64 n) := Blk.cell (heap_alloc_new w _) 1
  have b2 : (w.alloc (abox (.slice A l.length c) n m k r)).cell? ⟨w.heap.size, 2, none⟩ = some (.int .i64 m) := Blk.cell (heap_alloc_new w _) 2
  have b3 : (w.alloc (abox (.slice A l.length c) n m k r)).cell? ⟨w.heap.size, 3, none⟩ = some (.int .i64 k) := Blk.cell (heap_alloc_new w _) 3
  have b4 : (w.alloc (abox (.slice A l.length c) n m k r)).cell? ⟨w.heap.size, 4, none⟩ = some (.int .i64 r) := Blk.cell (heap_alloc_new w _) 4
  clear h hl hT HL HZ
  generalize l.length = q at *
  go_enter Tryd.func9, Tryd.ntmps9
  go_wp2_with fail
  refine HM.out.mono ?_; rintro e w2 ⟨rfl, hb⟩
  have HE := Lib.hid (HB.out.trans (hb.mono HB.out.size))
  clear hb HM HB
  go_wp2_with fail
  go_ret
  exact ⟨rfl, HE.out⟩
set_option maxHeartbeats 400000 in
theorem lawCursorBigZ_any (v : Value) (l : List Sc) (n m k r : Int) (w : World) (h : Scrs 1048576 w v l) (hl : l.length ≤ 140737488355328) (hT : Tabs w) :
    Calls Tryd.prog 10 #[.agg #[v, .int .i64 n, .int .i64 m, .int .i64 k, .int .i64 r]] w fun e w' => e = .returned (.bool true) ∧ Below w.heap.size w w' := by
  have HB := Lib.hid (two_new w (abox v n m k r) (.cells #[.int .i64 90] 3))
  have HM := Lib.hid (moves_any v l n m k r [90] (w.alloc (abox v n m k r)).heap.size 1 ((w.alloc (abox v n m k r)).alloc (.cells #[.int .i64 90] 3)) (h.kept HB.out) hl (hT.kept HB.out) (kv_one _ 90 _) (by simp))
  have HZ : Hid ((w.alloc (abox v n m k r)).heap.size = w.heap.size + 1) := Lib.hid (by simp)
  rw [HZ.out] at HM
  have HL : Hid (([90] : List Int).length = 1) := Lib.hid rfl
  rw [HL.out] at HM
  obtain ⟨⟨A, c, rfl, _⟩, _⟩ := id h
  have b0 : (w.alloc (abox (.slice A l.length c) n m k r)).cell? ⟨w.heap.size, 0, none⟩ = some (.slice A l.length c) := Blk.cell (heap_alloc_new w _) 0
  have b1 : (w.alloc (abox (.slice A l.length c) n m k r)).cell? ⟨w.heap.size, 1, none⟩ = some (.int .i64 n) := Blk.cell (heap_alloc_new w _) 1
  have b2 : (w.alloc (abox (.slice A l.length c) n m k r)).cell? ⟨w.heap.size, 2, none⟩ = some (.int .i64 m) := Blk.cell (heap_alloc_new w _) 2
  have b3 : (w.alloc (abox (.slice A l.length c) n m k r)).cell? ⟨w.heap.size, 3, none⟩ = some (.int .i64 k) := Blk.cell (heap_alloc_new w _) 3
  have b4 : (w.alloc (abox (.slice A l.length c) n m k r)).cell? ⟨w.heap.size, 4, none⟩ = some (.int .i64 r) := Blk.cell (heap_alloc_new w _) 4
  clear h hl hT HL HZ
  generalize l.length = q at *
  go_enter Tryd.func10, Tryd.ntmps10
  go_wp2_with fail
  refine HM.out.mono ?_; rintro e w2 ⟨rfl, hb⟩
  have HE := Lib.hid (HB.out.trans (hb.mono HB.out.size))
  clear hb HM HB
  go_wp2_with fail
  go_ret
  exact ⟨rfl, HE.out⟩
end Scr
end Go.Proofs.YtgjpojaegjdjcabDoor
end
