/- Joined texts: GrdNew, GrdBad. -/
import Derived.Test.YtgjpojaegjdjcaaGreatDoorJ1
import Derived.Test.YtgjpojaegjdjcaaGreatDoorJ2
import Derived.Test.YtgjpojaegjdjcaaGreatDoorJ3
import Derived.Test.YtgjpojaegjdjcaaGreatDoorJ4
import Derived.Test.YtgjpojaegjdjcaaGreatDoorJ5
import Derived.Test.YtgjpojaegjdjcaaGreatDoorJ7
import Derived.Test.YtgjpojaegjdjcaaGreatDoorJ8
section
/- The developers' New; the law wakes. -/
namespace Go.Proofs.YtgjpojaegjdjcaaGreatDoor
set_option maxRecDepth 100000
open Go.RowKit
namespace Row

theorem empties_ok (w : World) (r c : Nat) {a : Look} (ha : attrOk a = true) : LnsOk w c (List.replicate r (.empty a)) := fun x hx => by rw [(List.mem_replicate.1 hx).2]; exact ha
end Row
end Go.Proofs.YtgjpojaegjdjcaaGreatDoor
end
section
/- The developers' Up, Down, Resize and New, where they refuse. -/
namespace Go.Proofs.YtgjpojaegjdjcaaGreatDoor
set_option maxRecDepth 100000
open Go.RowKit
namespace Row

/-- What may be moved. -/
def MvOk (G : Gr) (top bot n : Int) (a : Look) : Prop := GridOk G ∧ attrOk a = true ∧ (0 ≤ top ∧ top ≤ bot) ∧ bot < G.rows ∧ (0 ≤ n ∧ n ≤ 9999)
theorem room_bad (r c : Int) (l : List Cl) (a : Look) (top bot n : Int) (x : Value) (w : World) (hx : Rm w x l) (hs : Held l) (h : ¬ MvOk ⟨r, c, l⟩ top bot n a) :
    Calls Tryz.prog 117 #[.agg #[.int .i64 r, .int .i64 c, x], .int .i64 top, .int .i64 bot, .int .i64 n, .agg #[.int .i64 a.fg, .int .i64 a.bg, .int .i64 a.flags]] w fun e w' => e = .returned (.tuple #[.int .i64 0, .int .i64 1]) ∧ Below w.heap.size w w' := by
  by_cases h1 : GridOk ⟨r, c, l⟩
  · cases h2 : attrOk a with
    | false => exact room_unseen r c l a top bot n x w hx hs h1 h2
    | true =>
      by_cases h3 : 0 ≤ top ∧ top ≤ bot
      · by_cases h4 : bot < r
        · by_cases h5 : 0 ≤ n ∧ n ≤ 9999
          · exact absurd ⟨h1, h2, h3, h4, h5⟩ h
          · exact room_many r c l a top bot n x w hx hs h1 h2 h3 h4 h5
        · exact room_low r c l a top bot n x w hx hs h1 h2 h3 (by omega)
      · exact room_out r c l a top bot n x w hx hs h1 h2 h3
  · exact room_unfit r c l a top bot n x w hx hs h1
theorem gzero {w : World} {b : Nat} (h : w.heap[b]? = some (gbox 0 0 (.slice none 0 0))) : w.cell? ⟨b, 0, none⟩ = some (.int .i64 0) ∧ w.cell? ⟨b, 1, none⟩ = some (.int .i64 0) ∧ w.cell? ⟨b, 2, none⟩ = some (.slice none 0 0) ∧ w.frozen? ⟨b, 0, none⟩ = false ∧ w.frozen? ⟨b, 1, none⟩ = false ∧ w.frozen? ⟨b, 2, none⟩ = false :=
  ⟨Blk.cell h 0, Blk.cell h 1, Blk.cell h 2, Blk.free h 0, Blk.free h 1, Blk.free h 2⟩
set_option maxHeartbeats 4000000 in
theorem up_bad (r c : Int) (l : List Cl) (a : Look) (top bot n : Int) (x : Value) (w : World) (hx : Rm w x l) (hs : Held l) (h : ¬ MvOk ⟨r, c, l⟩ top bot n a) :
    Calls Tryz.prog 89 #[.agg #[.int .i64 r, .int .i64 c, x], .int .i64 top, .int .i64 bot, .int .i64 n, .agg #[.int .i64 a.fg, .int .i64 a.bg, .int .i64 a.flags]] w fun e w' => e = .returned (.tuple #[.agg #[.int .i64 0, .int .i64 0, .slice none 0 0], .int .i64 1]) ∧ Below w.heap.size w w' := by
  have HBX := Lib.hid (Boxes3.new w r c x a)
  have HRM := Lib.hid (fun w' (k : Rm w' x l) => room_bad r c l a top bot n x w' k hs h)
  have HX := Lib.hid hx
  obtain ⟨_, A, cp, rfl, _⟩ := hx
  clear hs h
  go_enter Tryz.func89, Tryz.ntmps89
  go_wp2_with fail
  refine (HRM.out _ (HX.out.kept HBX.out.two.below)).mono ?_; rintro e w2 ⟨rfl, hb2⟩
  have HX2 := Lib.hid (HBX.out.kept hb2)
  clear hb2 HBX
  have HZ := Lib.hid HX2.out.z
  have HW := Lib.hid HX2.out.two.below
  obtain ⟨z0, z1, z2, y0, y1, y2⟩ := gzero HZ.out
  have HF := Lib.hid (gput_box HZ.out 0 0 (.slice none 0 0))
  have HB8 : Hid (Below w.heap.size w (gput w2 (w.heap.size + 2) 0 0 (.slice none 0 0))) := Lib.hid (gput_below HW.out (by omega) _ _ _)
  go_wp2_with fail
  show bodyPost _ _ _ _ _ (gput w2 (w.heap.size + 2) 0 0 (.slice none 0 0))
  clear z0 z1 z2 y0 y1 y2
  generalize gput w2 (w.heap.size + 2) 0 0 (.slice none 0 0) = wF at HF HB8 ⊢
  have z0 : wF.cell? ⟨w.heap.size + 1 + 1, 0, none⟩ = some (.int .i64 0) := Blk.cell HF.out 0
  have z1 : wF.cell? ⟨w.heap.size + 1 + 1, 1, none⟩ = some (.int .i64 0) := Blk.cell HF.out 1
  have z2 : wF.cell? ⟨w.heap.size + 1 + 1, 2, none⟩ = some (.slice none 0 0) := Blk.cell HF.out 2
  exact bodyPost_ret (v := .tuple #[.agg #[.int .i64 0, .int .i64 0, .slice none 0 0], .int .i64 1]) (by simp [results, Tryz.results89, go_sem, z0, z1, z2]) rfl ⟨rfl, HB8.out⟩
set_option maxHeartbeats 4000000 in
theorem down_bad (r c : Int) (l : List Cl) (a : Look) (top bot n : Int) (x : Value) (w : World) (hx : Rm w x l) (hs : Held l) (h : ¬ MvOk ⟨r, c, l⟩ top bot n a) :
    Calls Tryz.prog 90 #[.agg #[.int .i64 r, .int .i64 c, x], .int .i64 top, .int .i64 bot, .int .i64 n, .agg #[.int .i64 a.fg, .int .i64 a.bg, .int .i64 a.flags]] w fun e w' => e = .returned (.tuple #[.agg #[.int .i64 0, .int .i64 0, .slice none 0 0], .int .i64 1]) ∧ Below w.heap.size w w' := by
  have HBX := Lib.hid (Boxes3.new w r c x a)
  have HRM := Lib.hid (fun w' (k : Rm w' x l) => room_bad r c l a top bot n x w' k hs h)
  have HX := Lib.hid hx
  obtain ⟨_, A, cp, rfl, _⟩ := hx
  clear hs h
  go_enter Tryz.func90, Tryz.ntmps90
  go_wp2_with fail
  refine (HRM.out _ (HX.out.kept HBX.out.two.below)).mono ?_; rintro e w2 ⟨rfl, hb2⟩
  have HX2 := Lib.hid (HBX.out.kept hb2)
  clear hb2 HBX
  have HZ := Lib.hid HX2.out.z
  have HW := Lib.hid HX2.out.two.below
  obtain ⟨z0, z1, z2, y0, y1, y2⟩ := gzero HZ.out
  have HF := Lib.hid (gput_box HZ.out 0 0 (.slice none 0 0))
  have HB8 : Hid (Below w.heap.size w (gput w2 (w.heap.size + 2) 0 0 (.slice none 0 0))) := Lib.hid (gput_below HW.out (by omega) _ _ _)
  go_wp2_with fail
  show bodyPost _ _ _ _ _ (gput w2 (w.heap.size + 2) 0 0 (.slice none 0 0))
  clear z0 z1 z2 y0 y1 y2
  generalize gput w2 (w.heap.size + 2) 0 0 (.slice none 0 0) = wF at HF HB8 ⊢
  have z0 : wF.cell? ⟨w.heap.size + 1 + 1, 0, none⟩ = some (.int .i64 0) := Blk.cell HF.out 0
  have z1 : wF.cell? ⟨w.heap.size + 1 + 1, 1, none⟩ = some (.int .i64 0) := Blk.cell HF.out 1
  have z2 : wF.cell? ⟨w.heap.size + 1 + 1, 2, none⟩ = some (.slice none 0 0) := Blk.cell HF.out 2
  exact bodyPost_ret (v := .tuple #[.agg #[.int .i64 0, .int .i64 0, .slice none 0 0], .int .i64 1]) (by simp [results, Tryz.results90, go_sem, z0, z1, z2]) rfl ⟨rfl, HB8.out⟩
end Row
end Go.Proofs.YtgjpojaegjdjcaaGreatDoor
end
